/-
  What the calls of package least do: the premises of layer 8, for the landed code.
-/
import Derived.Test.YtpbchcpbjflnoaaMarks08
import Derived.Test.YtpbchcpbjflnoaaSeek08
import Derived.Test.YtpbchcpbjflnoaaLaid08
import Derived.Test.YtpbchcpbjflnoaaChk08
import Derived.Deep.DeepCutAuto
import Derived.Deep.DeepCutAuto
namespace Go.Proofs.Ytpbchcpbjflnoaa
open Go.RowKit Go.BigFrame
set_option linter.unusedVariables false

set_option maxRecDepth 100000 in
set_option maxHeartbeats 1600000 in
theorem of8_none (A : Option Addr) (len cap : Nat) (l : List (Int × Int)) (h0 : len = 0) (w : World) : Calls Try.prog 13 #[.slice A len cap] w fun e w' => e = .returned (.tuple #[.int .i64 0, .bool false]) ∧ Kept w w' := by
  subst h0
  go_enter Try.func13, Try.ntmps13
  go_wp2
  go_ret2
  exact ⟨rfl, Kept.refl _⟩
set_option maxRecDepth 100000 in
set_option maxHeartbeats 1600000 in
theorem of8_bad (A : Option Addr) (len cap : Nat) (l : List (Int × Int)) (j : Nat) (h0 : len = j + 1) (hl : len ≤ 1099511627776) (hn : l.length = len) (hm : ¬ MayL l) (w : World) (hr : RowM w A l) : Calls Try.prog 13 #[.slice A len cap] w fun e w' => e = .returned (.tuple #[.int .i64 0, .bool false]) ∧ Kept w w' := by
  have CK := Lib.hid (check8_ok A len cap l false hn hl (by simp [hm]) w hr)
  subst h0
  have hd : ((j : Int) + 1 == 0) = false := by simp; omega
  clear hn hm hr
  go_enter Try.func13, Try.ntmps13
  go_wp2_with fail
  refine (CK.out).mono ?_
  rintro e w1 ⟨rfl, k1⟩
  go_wp2
  go_ret2
  exact ⟨rfl, k1⟩
set_option maxRecDepth 100000 in
set_option maxHeartbeats 1600000 in
theorem of8_some (A : Option Addr) (len cap : Nat) (l : List (Int × Int)) (j : Nat) (h0 : len = j + 1) (hl : len ≤ 1099511627776) (hn : l.length = len) (hm : MayL l) (n : Int) (h2 : (mk l 0).2 = n) (w : World) (hr : RowM w A l) : Calls Try.prog 13 #[.slice A len cap] w fun e w' => e = .returned (.tuple #[.int .i64 n, .bool true]) ∧ Kept w w' := by
  have CK := Lib.hid (check8_ok A len cap l true hn hl (by simp [hm]) w hr)
  obtain ⟨b, off, rfl, hc⟩ := hr (by omega)
  obtain ⟨_, c2⟩ := hc 0 (by omega)
  rw [h2] at c2
  have c3 : w.cell? ⟨b, off + 1, none⟩ = some (.int .i64 n) := by simpa using c2
  subst h0
  have hd : ((j : Int) + 1 == 0) = false := by simp; omega
  clear hn h2 hc c2 hm
  go_enter Try.func13, Try.ntmps13
  go_wp2_with fail
  refine (CK.out).mono ?_
  rintro e w1 ⟨rfl, k1⟩
  have c4 := k1.read c3
  clear c3
  go_wp2
  go_ret2
  exact ⟨rfl, k1⟩
theorem lof_c : LOfC := fun A cap l n b hs hl h w hr => by
  by_cases h0 : l = []
  · have e : n = 0 ∧ b = false := by
      rcases h with ⟨_, z, _, _⟩ | ⟨_, rfl, rfl⟩
      · exact absurd h0 z
      · exact ⟨rfl, rfl⟩
    obtain ⟨rfl, rfl⟩ := e
    exact of8_none A l.length cap l (by rw [h0]; rfl) w
  · have hlen : 0 < l.length := by
      rcases Nat.eq_zero_or_pos l.length with z | z
      · exact absurd (List.eq_nil_of_length_eq_zero z) h0
      · exact z
    by_cases hm : MayL l
    · rcases h with ⟨_, _, rfl, rfl⟩ | ⟨z, _, _⟩
      · exact of8_some A l.length cap l (l.length - 1) (by omega) hl rfl hm _ rfl w hr
      · exact absurd ⟨hm, h0⟩ z
    · rcases h with ⟨z, _, _, _⟩ | ⟨_, rfl, rfl⟩
      · exact absurd z hm
      · exact of8_bad A l.length cap l (l.length - 1) (by omega) hl rfl hm w hr
theorem lcheck_c : LCheckC := fun A cap l v _ hl hv w hr => check8_ok A l.length cap l v rfl hl hv w hr
set_option maxRecDepth 100000 in
set_option maxHeartbeats 1600000 in
theorem sinc8_neg (A : Option Addr) (len cap : Nat) (l : List (Int × Int)) (window at_ : Int) (hw : window < 0) (w : World) (hr : RowM w A l) : Calls Try.prog 15 #[.slice A len cap, .int .i64 window, .int .i64 at_] w fun e w' => e = .returned (.tuple #[.int .i64 0, .bool false]) ∧ Kept w w' := by
  clear hr
  go_enter Try.func15, Try.ntmps15
  go_wp2
  go_ret2
  exact ⟨rfl, Kept.refl _⟩
set_option maxRecDepth 100000 in
set_option maxHeartbeats 1600000 in
theorem sinc8_ago (A : Option Addr) (len cap : Nat) (l : List (Int × Int)) (window at_ : Int) (hw : 0 ≤ window) (ha : at_ < 0) (w : World) (hr : RowM w A l) : Calls Try.prog 15 #[.slice A len cap, .int .i64 window, .int .i64 at_] w fun e w' => e = .returned (.tuple #[.int .i64 0, .bool false]) ∧ Kept w w' := by
  clear hr
  have d0 : decide (window < 0) = false := by simp; omega
  have d1 : decide (at_ < 0) = true := by simp [ha]
  go_enter Try.func15, Try.ntmps15
  go_wp2
  go_ret2
  exact ⟨rfl, Kept.refl _⟩
set_option maxRecDepth 100000 in
set_option maxHeartbeats 1600000 in
theorem sinc8_bad (A : Option Addr) (len cap : Nat) (l : List (Int × Int)) (window at_ : Int) (hw : 0 ≤ window) (h0 : 0 ≤ at_) (hl : len ≤ 1099511627776) (hn : l.length = len) (hm : ¬ MayL l) (w : World) (hr : RowM w A l) : Calls Try.prog 15 #[.slice A len cap, .int .i64 window, .int .i64 at_] w fun e w' => e = .returned (.tuple #[.int .i64 0, .bool false]) ∧ Kept w w' := by
  have CK := Lib.hid (check8_ok A len cap l false hn hl (by simp [hm]) w hr)
  have d0 : decide (window < 0) = false := by simp; omega
  have d1 : decide (at_ < 0) = false := by simp; omega
  clear hr hn hm
  go_enter Try.func15, Try.ntmps15
  go_wp2_with fail
  refine (CK.out).mono ?_
  rintro e w1 ⟨rfl, k1⟩
  go_wp2
  go_ret2
  exact ⟨rfl, k1⟩
set_option maxRecDepth 100000 in
set_option maxHeartbeats 1600000 in
theorem sinc8_end (A : Option Addr) (len cap : Nat) (l : List (Int × Int)) (window at_ : Int) (f : Nat) (hw : 0 ≤ window) (h0 : 0 ≤ at_) (ha : In64 at_) (hl : len ≤ 1099511627776) (hn : l.length = len) (hm : MayL l) (hi64 : ∀ m ∈ l, In64 m.1 ∧ In64 m.2) (hf : SinceAt l len (at_ - window) f) (he : f = len) (w : World) (hr : RowM w A l) : Calls Try.prog 15 #[.slice A len cap, .int .i64 window, .int .i64 at_] w fun e w' => e = .returned (.tuple #[.int .i64 0, .bool false]) ∧ Kept w w' := by
  have FR := Lib.hid (fun w hr => fresh_ok A len cap l window at_ f (by omega) hl ha h0 (fun i hi => ⟨(hm i (by omega)).1.1, (hi64 _ (mk_mem (by omega))).1⟩) hf w hr)
  have CK := Lib.hid (check8_ok A len cap l true hn hl (by simp [hm]) w hr)
  have HR := Lib.hid hr
  have d0 : decide (window < 0) = false := by simp; omega
  have d1 : decide (at_ < 0) = false := by simp; omega
  clear hr hn hm hi64 hf
  subst he
  go_enter Try.func15, Try.ntmps15
  go_wp2_with fail
  refine (CK.out).mono ?_
  rintro e w1 ⟨rfl, k1⟩
  go_wp2_with fail
  refine (FR.out _ (HR.out.kept k1)).mono ?_
  rintro e w2 ⟨rfl, k2⟩
  go_wp2
  go_ret2
  exact ⟨rfl, Kept.trans k1 k2⟩
set_option maxRecDepth 100000 in
set_option maxHeartbeats 1600000 in
theorem sinc8_late (A : Option Addr) (len cap : Nat) (l : List (Int × Int)) (window at_ : Int) (f : Nat) (hw : 0 ≤ window) (h0 : 0 ≤ at_) (ha : In64 at_) (hl : len ≤ 1099511627776) (hn : l.length = len) (hm : MayL l) (hi64 : ∀ m ∈ l, In64 m.1 ∧ In64 m.2) (hf : SinceAt l len (at_ - window) f) (he : f < len) (t : Int) (et : (mk l f).1 = t) (ht : at_ < t) (w : World) (hr : RowM w A l) : Calls Try.prog 15 #[.slice A len cap, .int .i64 window, .int .i64 at_] w fun e w' => e = .returned (.tuple #[.int .i64 0, .bool false]) ∧ Kept w w' := by
  have FR := Lib.hid (fun w hr => fresh_ok A len cap l window at_ f (by omega) hl ha h0 (fun i hi => ⟨(hm i (by omega)).1.1, (hi64 _ (mk_mem (by omega))).1⟩) hf w hr)
  have CK := Lib.hid (check8_ok A len cap l true hn hl (by simp [hm]) w hr)
  have HR := Lib.hid hr
  have d0 : decide (window < 0) = false := by simp; omega
  have d1 : decide (at_ < 0) = false := by simp; omega
  obtain ⟨b, off, rfl, hc⟩ := HR.out (by omega)
  obtain ⟨c1, c2⟩ := hc f (by omega)
  have hd : ((f : Int) == (len : Int)) = false := by simp; omega
  have g0 : (0 : Int) ≤ (f : Int) := by omega
  have g1 : (f : Int) < (len : Int) := by omega
  rw [et] at c1
  clear hr hn hm hi64 hf hc c2 et
  have d2 : decide (at_ < t) = true := by simp [ht]
  go_enter Try.func15, Try.ntmps15
  go_wp2_with fail
  refine (CK.out).mono ?_
  rintro e w1 ⟨rfl, k1⟩
  go_wp2_with fail
  refine (FR.out _ (HR.out.kept k1)).mono ?_
  rintro e w2 ⟨rfl, k2⟩
  have c3 := k2.read (k1.read c1)
  clear c1
  go_wp2
  go_ret2
  exact ⟨rfl, Kept.trans k1 k2⟩
set_option maxRecDepth 100000 in
set_option maxHeartbeats 1600000 in
theorem sinc8_yes (A : Option Addr) (len cap : Nat) (l : List (Int × Int)) (window at_ : Int) (f : Nat) (hw : 0 ≤ window) (h0 : 0 ≤ at_) (ha : In64 at_) (hl : len ≤ 1099511627776) (hn : l.length = len) (hm : MayL l) (hi64 : ∀ m ∈ l, In64 m.1 ∧ In64 m.2) (hf : SinceAt l len (at_ - window) f) (he : f < len) (t n : Int) (et : (mk l f).1 = t) (en : (mk l f).2 = n) (ht : t ≤ at_) (w : World) (hr : RowM w A l) : Calls Try.prog 15 #[.slice A len cap, .int .i64 window, .int .i64 at_] w fun e w' => e = .returned (.tuple #[.int .i64 n, .bool true]) ∧ Kept w w' := by
  have FR := Lib.hid (fun w hr => fresh_ok A len cap l window at_ f (by omega) hl ha h0 (fun i hi => ⟨(hm i (by omega)).1.1, (hi64 _ (mk_mem (by omega))).1⟩) hf w hr)
  have CK := Lib.hid (check8_ok A len cap l true hn hl (by simp [hm]) w hr)
  have HR := Lib.hid hr
  have d0 : decide (window < 0) = false := by simp; omega
  have d1 : decide (at_ < 0) = false := by simp; omega
  obtain ⟨b, off, rfl, hc⟩ := HR.out (by omega)
  obtain ⟨c1, c2⟩ := hc f (by omega)
  have hd : ((f : Int) == (len : Int)) = false := by simp; omega
  have g0 : (0 : Int) ≤ (f : Int) := by omega
  have g1 : (f : Int) < (len : Int) := by omega
  rw [et] at c1
  rw [en] at c2
  clear hr hn hm hi64 hf hc et en
  have d2 : decide (at_ < t) = false := by simp; omega
  go_enter Try.func15, Try.ntmps15
  go_wp2_with fail
  refine (CK.out).mono ?_
  rintro e w1 ⟨rfl, k1⟩
  go_wp2_with fail
  refine (FR.out _ (HR.out.kept k1)).mono ?_
  rintro e w2 ⟨rfl, k2⟩
  have c3 := k2.read (k1.read c1)
  have c4 := k2.read (k1.read c2)
  clear c1 c2
  go_wp2
  go_ret2
  exact ⟨rfl, Kept.trans k1 k2⟩
theorem lsince_c : LSinceC := fun A cap l window at_ n b hs hl hi hw ha h w hr => by
  by_cases h1 : window < 0
  · obtain ⟨rfl, rfl⟩ := since_one h (Or.inl ⟨fun z => absurd z.2 (by omega), rfl, rfl⟩)
    exact sinc8_neg A l.length cap l window at_ h1 w hr
  · by_cases h2 : at_ < 0
    · have e : n = 0 ∧ b = false := by
        by_cases hm : MayL l
        · exact since_one h (Or.inr ⟨hm, by omega, Or.inr ⟨fun k hk z => by have := (hm k hk).1.1; have := z.2; omega, rfl, rfl⟩⟩)
        · exact since_one h (Or.inl ⟨fun z => hm z.1, rfl, rfl⟩)
      obtain ⟨rfl, rfl⟩ := e
      exact sinc8_ago A l.length cap l window at_ (by omega) h2 w hr
    · by_cases hm : MayL l
      · obtain ⟨f, hf⟩ := sinceAt_ex hm (at_ - window) l.length (Nat.le_refl _)
        rcases (show f = l.length ∨ f < l.length by have := hf.1; omega) with z | z
        · obtain ⟨rfl, rfl⟩ := since_one h (Or.inr ⟨hm, by omega, Or.inr ⟨fun k hk y => by have := hf.2.2.1 k (by omega); have := y.1; omega, rfl, rfl⟩⟩)
          exact sinc8_end A l.length cap l window at_ f (by omega) (by omega) ha hl rfl hm hi hf z w hr
        · by_cases ht : at_ < (mk l f).1
          · obtain ⟨rfl, rfl⟩ := since_one h (Or.inr ⟨hm, by omega, Or.inr ⟨fun k hk y => by
              rcases Nat.lt_or_ge k f with x | x
              · have := hf.2.2.1 k x; have := y.1; omega
              · have := (may_le hm x hk).1; have := y.2; omega, rfl, rfl⟩⟩)
            exact sinc8_late A l.length cap l window at_ f (by omega) (by omega) ha hl rfl hm hi hf z _ rfl ht w hr
          · obtain ⟨rfl, rfl⟩ := since_one h (Or.inr ⟨hm, by omega, Or.inl ⟨f, z, ⟨hf.2.2.2 f (Nat.le_refl _) z, by omega⟩, fun j hj y => by have := hf.2.2.1 j hj; have := y.1; omega, rfl, rfl⟩⟩)
            exact sinc8_yes A l.length cap l window at_ f (by omega) (by omega) ha hl rfl hm hi hf z _ _ rfl rfl (by omega) w hr
      · obtain ⟨rfl, rfl⟩ := since_one h (Or.inl ⟨fun z => hm z.1, rfl, rfl⟩)
        exact sinc8_bad A l.length cap l window at_ (by omega) (by omega) hl rfl hm w hr
set_option maxRecDepth 100000 in
set_option maxHeartbeats 1600000 in
theorem put8_time (A : Option Addr) (len cap : Nat) (l : List (Int × Int)) (window at_ n : Int) (hs : SliceOk A len cap) (hn : l.length = len) (hl : len ≤ 1099511627776) (ht : ¬ IsTime at_) (w : World) (hr : RowM w A l) : Calls Try.prog 10 #[.slice A len cap, .int .i64 window, .int .i64 at_, .int .i64 n] w fun e w' => ∃ (B : Option Addr) (c : Nat), e = .returned (.tuple #[.slice B len c, .int .i64 51]) ∧ SliceOk B len c ∧ RowN w w' A B l ∧ Kept w w' := by
  have HR := Lib.hid hr
  clear hr
  go_enter Try.func10, Try.ntmps10
  go_upto_region 1 with fail
  generalize hW : World.alloc _ _ = W
  have K0 : Kept w W := by subst hW; exact ((Kept.refl _).alloc _ _).alloc _ _
  have b0 : W.cell? ⟨w.heap.size, 0, none⟩ = some (.slice A len cap) := by subst hW; simp [go_sem]
  have b1 : W.cell? ⟨w.heap.size + 1, 0, none⟩ = some (.int .i64 n) := by subst hW; simp [go_sem]
  clear hW
  generalize hg : w.heap.size = g at *
  clear hg
  go_wp2_with fail
  refine (timely8_no ht _).mono ?_
  rintro e v0 ⟨rfl, k0⟩
  have b0' := k0.read b0
  clear b0
  have b0 := b0'
  clear b0'
  go_wp2_with fail
  refine (laid_none A len cap l hs hn hl _ (HR.out.kept (Kept.trans (K0) k0))).mono ?_
  rintro e u ⟨B, c, rfl, sok, rown, ku⟩
  go_wp2
  go_ret2
  exact ⟨B, c, rfl, sok, rown w (Kept.trans (K0) k0) A, Kept.trans (Kept.trans (K0) k0) ku⟩
set_option maxRecDepth 100000 in
set_option maxHeartbeats 1600000 in
theorem put8_neg (A : Option Addr) (len cap : Nat) (l : List (Int × Int)) (window at_ n : Int) (hs : SliceOk A len cap) (hn : l.length = len) (hl : len ≤ 1099511627776) (ht : IsTime at_) (hw : window < 0) (w : World) (hr : RowM w A l) : Calls Try.prog 10 #[.slice A len cap, .int .i64 window, .int .i64 at_, .int .i64 n] w fun e w' => ∃ (B : Option Addr) (c : Nat), e = .returned (.tuple #[.slice B len c, .int .i64 51]) ∧ SliceOk B len c ∧ RowN w w' A B l ∧ Kept w w' := by
  have HR := Lib.hid hr
  clear hr
  go_enter Try.func10, Try.ntmps10
  go_upto_region 1 with fail
  generalize hW : World.alloc _ _ = W
  have K0 : Kept w W := by subst hW; exact ((Kept.refl _).alloc _ _).alloc _ _
  have b0 : W.cell? ⟨w.heap.size, 0, none⟩ = some (.slice A len cap) := by subst hW; simp [go_sem]
  have b1 : W.cell? ⟨w.heap.size + 1, 0, none⟩ = some (.int .i64 n) := by subst hW; simp [go_sem]
  clear hW
  generalize hg : w.heap.size = g at *
  clear hg
  go_wp2_with fail
  refine (timely8_yes ht _).mono ?_
  rintro e v0 ⟨rfl, k0⟩
  have b0' := k0.read b0
  clear b0
  have b0 := b0'
  clear b0'
  go_wp2_with fail
  refine (laid_none A len cap l hs hn hl _ (HR.out.kept (Kept.trans (K0) k0))).mono ?_
  rintro e u ⟨B, c, rfl, sok, rown, ku⟩
  go_wp2
  go_ret2
  exact ⟨B, c, rfl, sok, rown w (Kept.trans (K0) k0) A, Kept.trans (Kept.trans (K0) k0) ku⟩
set_option maxRecDepth 100000 in
set_option maxHeartbeats 1600000 in
theorem put8_bad (A : Option Addr) (len cap : Nat) (l : List (Int × Int)) (window at_ n : Int) (hs : SliceOk A len cap) (hn : l.length = len) (hl : len ≤ 1099511627776) (ht : IsTime at_) (hw : 0 ≤ window) (hm : ¬ MayL l) (w : World) (hr : RowM w A l) : Calls Try.prog 10 #[.slice A len cap, .int .i64 window, .int .i64 at_, .int .i64 n] w fun e w' => ∃ (B : Option Addr) (c : Nat), e = .returned (.tuple #[.slice B len c, .int .i64 51]) ∧ SliceOk B len c ∧ RowN w w' A B l ∧ Kept w w' := by
  have HR := Lib.hid hr
  have dw : decide (window < 0) = false := by simp; omega
  clear hr
  go_enter Try.func10, Try.ntmps10
  go_upto_region 1 with fail
  generalize hW : World.alloc _ _ = W
  have K0 : Kept w W := by subst hW; exact ((Kept.refl _).alloc _ _).alloc _ _
  have b0 : W.cell? ⟨w.heap.size, 0, none⟩ = some (.slice A len cap) := by subst hW; simp [go_sem]
  have b1 : W.cell? ⟨w.heap.size + 1, 0, none⟩ = some (.int .i64 n) := by subst hW; simp [go_sem]
  clear hW
  generalize hg : w.heap.size = g at *
  clear hg
  go_wp2_with fail
  refine (timely8_yes ht _).mono ?_
  rintro e v0 ⟨rfl, k0⟩
  have b0' := k0.read b0
  clear b0
  have b0 := b0'
  clear b0'
  go_wp2_with fail
  refine (check8_ok A len cap l false hn hl (by simp [hm]) _ (HR.out.kept (Kept.trans K0 k0))).mono ?_
  rintro e v1 ⟨rfl, k1⟩
  have b1' := k1.read b0
  clear b0
  have b0 := b1'
  clear b1'
  go_wp2_with fail
  refine (laid_none A len cap l hs hn hl _ (HR.out.kept (Kept.trans (Kept.trans (K0) k0) k1))).mono ?_
  rintro e u ⟨B, c, rfl, sok, rown, ku⟩
  go_wp2
  go_ret2
  exact ⟨B, c, rfl, sok, rown w (Kept.trans (Kept.trans (K0) k0) k1) A, Kept.trans (Kept.trans (Kept.trans (K0) k0) k1) ku⟩
set_option maxRecDepth 100000 in
set_option maxHeartbeats 1600000 in
theorem put8_back (A : Option Addr) (len cap : Nat) (l : List (Int × Int)) (window at_ n : Int) (hs : SliceOk A len cap) (hn : l.length = len) (hl : len ≤ 1099511627776) (ht : IsTime at_) (hw : 0 ≤ window) (hm : MayL l) (j : Nat) (hj : len = j + 1) (t : Int) (et : (mk l j).1 = t) (hb : at_ < t) (w : World) (hr : RowM w A l) : Calls Try.prog 10 #[.slice A len cap, .int .i64 window, .int .i64 at_, .int .i64 n] w fun e w' => ∃ (B : Option Addr) (c : Nat), e = .returned (.tuple #[.slice B len c, .int .i64 50]) ∧ SliceOk B len c ∧ RowN w w' A B l ∧ Kept w w' := by
  have HR := Lib.hid hr
  have dw : decide (window < 0) = false := by simp; omega
  obtain ⟨b, off, rfl, hc⟩ := HR.out (by omega)
  obtain ⟨c1, _⟩ := hc j (by omega)
  rw [et] at c1
  have g0 : (0 : Int) ≤ (j : Int) := by omega
  have g1 : (0 : Int) < (j : Int) + 1 := by omega
  subst hj
  clear hc hr
  go_enter Try.func10, Try.ntmps10
  go_upto_region 1 with fail
  generalize hW : World.alloc _ _ = W
  have K0 : Kept w W := by subst hW; exact ((Kept.refl _).alloc _ _).alloc _ _
  have b0 : W.cell? ⟨w.heap.size, 0, none⟩ = some (.slice (some ⟨b, off, none⟩) (j + 1) cap) := by subst hW; simp [go_sem]
  have b1 : W.cell? ⟨w.heap.size + 1, 0, none⟩ = some (.int .i64 n) := by subst hW; simp [go_sem]
  clear hW
  generalize hg : w.heap.size = g at *
  clear hg
  go_wp2_with fail
  refine (timely8_yes ht _).mono ?_
  rintro e v0 ⟨rfl, k0⟩
  have b0' := k0.read b0
  clear b0
  have b0 := b0'
  clear b0'
  go_wp2_with fail
  refine (check8_ok (some ⟨b, off, none⟩) (j + 1) cap l true hn hl (by simp [hm]) _ (HR.out.kept (Kept.trans K0 k0))).mono ?_
  rintro e v1 ⟨rfl, k1⟩
  have b1' := k1.read b0
  clear b0
  have b0 := b1'
  clear b1'
  have c2 := k1.read (k0.read (K0.read c1))
  clear c1
  go_wp2_with fail
  refine (laid_none (some ⟨b, off, none⟩) (j + 1) cap l hs hn hl _ (HR.out.kept (Kept.trans (Kept.trans (K0) k0) k1))).mono ?_
  rintro e u ⟨B, c, rfl, sok, rown, ku⟩
  go_wp2
  go_ret2
  exact ⟨B, c, rfl, sok, rown w (Kept.trans (Kept.trans (K0) k0) k1) _, Kept.trans (Kept.trans (Kept.trans (K0) k0) k1) ku⟩
set_option maxRecDepth 100000 in
set_option maxHeartbeats 1600000 in
theorem put8_first (A : Option Addr) (len cap : Nat) (l : List (Int × Int)) (window at_ n : Int) (hs : SliceOk A len cap) (hn : l.length = len) (hl : len ≤ 1099511627776) (ht : IsTime at_) (hw : 0 ≤ window) (hm : MayL l) (h0 : len = 0) (w : World) (hr : RowM w A l) : Calls Try.prog 10 #[.slice A len cap, .int .i64 window, .int .i64 at_, .int .i64 n] w fun e w' => ∃ (B : Option Addr) (c : Nat), e = .returned (.tuple #[.slice B 1 c, .int .i64 0]) ∧ SliceOk B 1 c ∧ RowN w w' A B [(at_, n)] ∧ Kept w w' := by
  have HR := Lib.hid hr
  have dw : decide (window < 0) = false := by simp; omega
  subst h0
  obtain rfl : l = [] := List.eq_nil_of_length_eq_zero hn
  clear hr
  go_enter Try.func10, Try.ntmps10
  go_upto_region 1 with fail
  generalize hW : World.alloc _ _ = W
  have K0 : Kept w W := by subst hW; exact ((Kept.refl _).alloc _ _).alloc _ _
  have b0 : W.cell? ⟨w.heap.size, 0, none⟩ = some (.slice A 0 cap) := by subst hW; simp [go_sem]
  have b1 : W.cell? ⟨w.heap.size + 1, 0, none⟩ = some (.int .i64 n) := by subst hW; simp [go_sem]
  clear hW
  generalize hg : w.heap.size = g at *
  clear hg
  have SR := Lib.hid (fun v (_ : Kept W v) => search_put 0 0 ⟨g, 0, none⟩ ⟨g + 1, 0, none⟩ v (by omega) (by omega) (fun i hi => absurd hi (by omega)))
  go_wp2_with fail
  refine (timely8_yes ht _).mono ?_
  rintro e v0 ⟨rfl, k0⟩
  have b0' := k0.read b0
  clear b0
  have b0 := b0'
  clear b0'
  go_wp2_with fail
  refine (check8_ok A 0 cap [] true hn hl (by simp [may_nil]) _ (HR.out.kept (Kept.trans K0 k0))).mono ?_
  rintro e v1 ⟨rfl, k1⟩
  have b1' := k1.read b0
  clear b0
  have b0 := b1'
  clear b1'
  have kA := Kept.trans (Kept.trans K0 k0) k1
  have kB := Kept.trans k0 k1
  have bn := kB.read b1
  clear b1
  go_wp2_with fail
  refine (SR.out _ kB).mono ?_
  rintro e v2 ⟨rfl, k2⟩
  go_upto_region 6 with fail
  have b2 := k2.read b0
  have H_r := Lib.hid b2
  have bn' := k2.read bn
  clear bn
  have bn := bn'
  clear bn' b2
  have kC := Kept.trans kA k2
  have FRp := Lib.hid (fun (A' : Option Addr) (p : KW v2) => fresh_ok A' 0 cap [] window at_ 0 (by simp) (by omega) (by unfold IsTime at ht; unfold In64; omega) ht.1 (fun i hi => absurd hi (by omega)) ⟨Nat.le_refl _, by simp, fun t h => absurd h (by omega), fun t h1 h2 => absurd h2 (by omega)⟩ p.w (rowM_nil _ _))
  clear SR hm ht
  have hs' := hs.2.2
  cases A with
  | none =>
    obtain rfl := hs' rfl
    clear hs'
    go_upto_region 6 with fail
    have B_r := Lib.hid (Kept.alln1 (show Kept v2 v2 from (by (repeat (first | with_reducible exact Kept.refl _ | with_reducible apply Kept.drew | with_reducible apply Kept.alloc | ((with_reducible apply Kept.set); focus (simp <;> omega)) | ((with_reducible apply Kept.via); focus with_reducible assumption))))) H_r)
    have kall : Kept w v2 := (by (repeat (first | with_reducible exact Kept.refl _ | with_reducible apply Kept.drew | with_reducible apply Kept.alloc | ((with_reducible apply Kept.set); focus (simp <;> omega)) | ((with_reducible apply Kept.via); focus with_reducible assumption))))
    have q_r0 := kwn1 B_r
    clear B_r
    refine wp_region_kept (by kernel_rfl) (by as_aux_lemma => kernel_rfl) ?_
    repeat (go_big_quiet_step (first | (with_reducible exact kept_of (FRp.out _ _))))
    refine wpQuiet_nil ?_
    intro wq hw'
    have kq : Kept v2 wq := by obtain ⟨p, rfl⟩ := hw'; exact p.k
    clear hw'
    clear kall
    have cn := kq.read bn
    go_wp2_with fail
    refine (laid_one _ 0 0 [] ⟨Nat.le_refl _, by omega, fun h => by first | rfl | cases h⟩ (by simp; done) (by omega) at_ n ⟨wq.heap.size, 0, none⟩ _ (cells_two_new _ _ _ _ 0 _ rfl) (cells_two_new _ _ _ _ 1 _ rfl) (RowM.kept (rowM_nil w _) ((Kept.trans kC kq).alloc _ _))).mono ?_
    rintro e u ⟨B, c, rfl, sok, rown, ku⟩
    go_wp2
    go_ret2
    exact ⟨B, c, rfl, sok, rown w ((Kept.trans kC kq).alloc _ _) _, Kept.trans ((Kept.trans kC kq).alloc _ _) ku⟩
  | some a =>
    clear hs'
    by_cases hz : cap = 0
    · subst hz
      go_upto_region 6 with fail
      have B_r := Lib.hid (Kept.alln1 (show Kept v2 v2 from (by (repeat (first | with_reducible exact Kept.refl _ | with_reducible apply Kept.drew | with_reducible apply Kept.alloc | ((with_reducible apply Kept.set); focus (simp <;> omega)) | ((with_reducible apply Kept.via); focus with_reducible assumption))))) H_r)
      have kall : Kept w v2 := (by (repeat (first | with_reducible exact Kept.refl _ | with_reducible apply Kept.drew | with_reducible apply Kept.alloc | ((with_reducible apply Kept.set); focus (simp <;> omega)) | ((with_reducible apply Kept.via); focus with_reducible assumption))))
      have q_r0 := kwn1 B_r
      clear B_r
      refine wp_region_kept (by kernel_rfl) (by as_aux_lemma => kernel_rfl) ?_
      repeat (go_big_quiet_step (first | (with_reducible exact kept_of (FRp.out _ _))))
      refine wpQuiet_nil ?_
      intro wq hw'
      have kq : Kept v2 wq := by obtain ⟨p, rfl⟩ := hw'; exact p.k
      clear hw'
      clear kall
      have cn := kq.read bn
      go_wp2_with fail
      refine (laid_one _ 0 0 [] ⟨Nat.le_refl _, by omega, fun h => by first | rfl | cases h⟩ (by simp; done) (by omega) at_ n ⟨wq.heap.size, 0, none⟩ _ (cells_two_new _ _ _ _ 0 _ rfl) (cells_two_new _ _ _ _ 1 _ rfl) (RowM.kept (rowM_nil w _) ((Kept.trans kC kq).alloc _ _))).mono ?_
      rintro e u ⟨B, c, rfl, sok, rown, ku⟩
      go_wp2
      go_ret2
      exact ⟨B, c, rfl, sok, rown w ((Kept.trans kC kq).alloc _ _) _, Kept.trans ((Kept.trans kC kq).alloc _ _) ku⟩
    · have hz0 : (0 : Int) ≤ (cap : Int) := by omega
      go_upto_region 6 with fail
      have B_r := Lib.hid (Kept.alln1 (show Kept v2 v2 from (by (repeat (first | with_reducible exact Kept.refl _ | with_reducible apply Kept.drew | with_reducible apply Kept.alloc | ((with_reducible apply Kept.set); focus (simp <;> omega)) | ((with_reducible apply Kept.via); focus with_reducible assumption))))) H_r)
      have kall : Kept w v2 := (by (repeat (first | with_reducible exact Kept.refl _ | with_reducible apply Kept.drew | with_reducible apply Kept.alloc | ((with_reducible apply Kept.set); focus (simp <;> omega)) | ((with_reducible apply Kept.via); focus with_reducible assumption))))
      have q_r0 := kwn1 B_r
      clear B_r
      refine wp_region_kept (by kernel_rfl) (by as_aux_lemma => kernel_rfl) ?_
      repeat (go_big_quiet_step (first | (with_reducible exact kept_of (FRp.out _ _))))
      refine wpQuiet_nil ?_
      intro wq hw'
      have kq : Kept v2 wq := by obtain ⟨p, rfl⟩ := hw'; exact p.k
      clear hw'
      clear kall
      have cn := kq.read bn
      go_wp2_with fail
      refine (laid_one _ 0 0 [] ⟨Nat.le_refl _, by omega, fun h => by first | rfl | cases h⟩ (by simp; done) (by omega) at_ n ⟨wq.heap.size, 0, none⟩ _ (cells_two_new _ _ _ _ 0 _ rfl) (cells_two_new _ _ _ _ 1 _ rfl) (RowM.kept (rowM_nil w _) ((Kept.trans kC kq).alloc _ _))).mono ?_
      rintro e u ⟨B, c, rfl, sok, rown, ku⟩
      go_wp2
      go_ret2
      exact ⟨B, c, rfl, sok, rown w ((Kept.trans kC kq).alloc _ _) _, Kept.trans ((Kept.trans kC kq).alloc _ _) ku⟩
set_option maxRecDepth 100000 in
set_option maxHeartbeats 1600000 in
theorem put8_yes (A : Option Addr) (len cap : Nat) (l : List (Int × Int)) (window at_ n : Int) (hs : SliceOk A len cap) (hn : l.length = len) (hl : len ≤ 1099511627776) (ht : IsTime at_) (hw : 0 ≤ window) (hm : MayL l) (j : Nat) (hj : len = j + 1) (t : Int) (et : (mk l j).1 = t) (hta : t ≤ at_) (f k : Nat) (hk : FromAt l n k) (hf : SinceAt l k (at_ - window) f) (hkf : ¬ k = f) (w : World) (hr : RowM w A l) : Calls Try.prog 10 #[.slice A len cap, .int .i64 window, .int .i64 at_, .int .i64 n] w fun e w' => ∃ (B : Option Addr) (c : Nat), e = .returned (.tuple #[.slice B (k - f + 1) c, .int .i64 0]) ∧ SliceOk B (k - f + 1) c ∧ RowN w w' A B ((l.take k).drop f ++ [(at_, n)]) ∧ Kept w w' := by
  have HR := Lib.hid hr
  have dw : decide (window < 0) = false := by simp; omega
  clear hr
  subst hj
  go_enter Try.func10, Try.ntmps10
  go_upto_region 1 with fail
  generalize hW : World.alloc _ _ = W
  have K0 : Kept w W := by subst hW; exact ((Kept.refl _).alloc _ _).alloc _ _
  have b0 : W.cell? ⟨w.heap.size, 0, none⟩ = some (.slice A (j + 1) cap) := by subst hW; simp [go_sem]
  have b1 : W.cell? ⟨w.heap.size + 1, 0, none⟩ = some (.int .i64 n) := by subst hW; simp [go_sem]
  clear hW
  generalize hg : w.heap.size = g at *
  clear hg
  have SR := Lib.hid (fun v (kv : Kept W v) => search_put (j + 1) k ⟨g, 0, none⟩ ⟨g + 1, 0, none⟩ v (by omega) (by have := hk.1; omega) (fun i hi u ku => by
    have hd : decide (k ≤ i) = decide (n ≤ (mk l i).2) := by
      have h1 := hk.2.1 i
      have h2 := hk.2.2 i
      by_cases z : k ≤ i
      · have := h2 z (by omega); simp [z]; omega
      · have := h1 (by omega); simp [z]; omega
    rw [hd]
    exact closure_put A (j + 1) cap l i ⟨g, 0, none⟩ ⟨g + 1, 0, none⟩ n hn hi hl u ((Kept.trans kv ku).read b0) ((Kept.trans kv ku).read b1) (HR.out.kept (Kept.trans K0 (Kept.trans kv ku)))))
  obtain ⟨b, off, rfl, hc⟩ := HR.out (by omega)
  obtain ⟨c1, _⟩ := hc j (by omega)
  rw [et] at c1
  have g0 : (0 : Int) ≤ (j : Int) := by omega
  have g1 : (0 : Int) < (j : Int) + 1 := by omega
  have dt : decide (at_ < t) = false := by simp; omega
  clear hc et
  go_wp2_with fail
  refine (timely8_yes ht _).mono ?_
  rintro e v0 ⟨rfl, k0⟩
  have b0' := k0.read b0
  clear b0
  have b0 := b0'
  clear b0'
  go_wp2_with fail
  refine (check8_ok _ (j + 1) cap l true hn hl (by simp [hm]) _ (HR.out.kept (Kept.trans K0 k0))).mono ?_
  rintro e v1 ⟨rfl, k1⟩
  have b1' := k1.read b0
  clear b0
  have b0 := b1'
  clear b1'
  have c2 := k1.read (k0.read (K0.read c1))
  clear c1
  have kA := Kept.trans (Kept.trans K0 k0) k1
  have kB := Kept.trans k0 k1
  have bn := kB.read b1
  clear b1
  go_wp2_with fail
  refine (SR.out _ kB).mono ?_
  rintro e v2 ⟨rfl, k2⟩
  go_upto_region 6 with fail
  have b2 := k2.read b0
  have H_r := Lib.hid b2
  have bn' := k2.read bn
  clear bn
  have bn := bn'
  clear bn' b2
  have kC := Kept.trans kA k2
  have i0 : (0 : Int) ≤ (k : Int) := by omega
  have hkl : k ≤ j + 1 := by have := hk.1; omega
  have hcap : k ≤ cap := by have := hs.1; omega
  have hcapI : (k : Int) ≤ (cap : Int) := by omega
  have hcap0 : ¬ cap = 0 := by have := hs.1; omega
  have i1 : (0 : Int) ≤ (f : Int) := by omega
  have hfk : f ≤ k := hf.1
  have i2 : (f : Int) ≤ (k : Int) := by omega
  have FRp := Lib.hid (fun p : KW v2 => fresh_ok (some ⟨b, off, none⟩) k cap l window at_ f (by omega) (by omega) (by unfold IsTime at ht; unfold In64; omega) ht.1 (fun i hi => by have := (hm i (by omega)).1; unfold IsTime at this; unfold In64; omega) hf p.w (HR.out.kept (Kept.trans kC p.k)))
  clear SR hf hk hta hm ht
  have HNl := Lib.hid (show ((l.take k).drop f).length = k - f from by rw [List.length_drop, List.length_take]; omega)
  have CU := Lib.hid (RowM.cut HR.out k f hfk (by omega) (B := some ⟨b, off + f * 2, none⟩) (fun h => by simp [Addr.add_lit]))
  go_upto_region 6 with fail
  have B_r := Lib.hid (Kept.alln1 (show Kept v2 v2 from (by (repeat (first | with_reducible exact Kept.refl _ | with_reducible apply Kept.drew | with_reducible apply Kept.alloc | ((with_reducible apply Kept.set); focus (simp <;> omega)) | ((with_reducible apply Kept.via); focus with_reducible assumption))))) H_r)
  have kall : Kept w v2 := (by (repeat (first | with_reducible exact Kept.refl _ | with_reducible apply Kept.drew | with_reducible apply Kept.alloc | ((with_reducible apply Kept.set); focus (simp <;> omega)) | ((with_reducible apply Kept.via); focus with_reducible assumption))))
  have q_r0 := kwn1 B_r
  clear B_r
  refine wp_region_kept (by kernel_rfl) (by as_aux_lemma => kernel_rfl) ?_
  repeat (go_big_quiet_step (first | (with_reducible exact kept_of (FRp.out _))))
  refine wpQuiet_nil ?_
  intro wq hw'
  have kq : Kept v2 wq := by obtain ⟨p, rfl⟩ := hw'; exact p.k
  clear hw'
  clear kall
  have cn := kq.read bn
  go_wp2_with fail
  refine (laid_one _ (k - f) (k - f) ((l.take k).drop f) ⟨Nat.le_refl _, by omega, fun h => by first | rfl | cases h⟩ HNl.out (by omega) at_ n ⟨wq.heap.size, 0, none⟩ _ (cells_two_new _ _ _ _ 0 _ rfl) (cells_two_new _ _ _ _ 1 _ rfl) (RowM.kept CU.out ((Kept.trans kC kq).alloc _ _))).mono ?_
  rintro e u ⟨B, c, rfl, sok, rown, ku⟩
  go_wp2
  go_ret2
  exact ⟨B, c, rfl, sok, rown w ((Kept.trans kC kq).alloc _ _) _, Kept.trans ((Kept.trans kC kq).alloc _ _) ku⟩
set_option maxRecDepth 100000 in
set_option maxHeartbeats 1600000 in
theorem put8_gone (A : Option Addr) (len cap : Nat) (l : List (Int × Int)) (window at_ n : Int) (hs : SliceOk A len cap) (hn : l.length = len) (hl : len ≤ 1099511627776) (ht : IsTime at_) (hw : 0 ≤ window) (hm : MayL l) (j : Nat) (hj : len = j + 1) (t : Int) (et : (mk l j).1 = t) (hta : t ≤ at_) (f k : Nat) (hk : FromAt l n k) (hf : SinceAt l k (at_ - window) f) (hkf : k = f) (w : World) (hr : RowM w A l) : Calls Try.prog 10 #[.slice A len cap, .int .i64 window, .int .i64 at_, .int .i64 n] w fun e w' => ∃ (B : Option Addr) (c : Nat), e = .returned (.tuple #[.slice B 1 c, .int .i64 0]) ∧ SliceOk B 1 c ∧ RowN w w' A B [(at_, n)] ∧ Kept w w' := by
  have HR := Lib.hid hr
  have dw : decide (window < 0) = false := by simp; omega
  clear hr
  subst hj
  go_enter Try.func10, Try.ntmps10
  go_upto_region 1 with fail
  generalize hW : World.alloc _ _ = W
  have K0 : Kept w W := by subst hW; exact ((Kept.refl _).alloc _ _).alloc _ _
  have b0 : W.cell? ⟨w.heap.size, 0, none⟩ = some (.slice A (j + 1) cap) := by subst hW; simp [go_sem]
  have b1 : W.cell? ⟨w.heap.size + 1, 0, none⟩ = some (.int .i64 n) := by subst hW; simp [go_sem]
  clear hW
  generalize hg : w.heap.size = g at *
  clear hg
  have SR := Lib.hid (fun v (kv : Kept W v) => search_put (j + 1) k ⟨g, 0, none⟩ ⟨g + 1, 0, none⟩ v (by omega) (by have := hk.1; omega) (fun i hi u ku => by
    have hd : decide (k ≤ i) = decide (n ≤ (mk l i).2) := by
      have h1 := hk.2.1 i
      have h2 := hk.2.2 i
      by_cases z : k ≤ i
      · have := h2 z (by omega); simp [z]; omega
      · have := h1 (by omega); simp [z]; omega
    rw [hd]
    exact closure_put A (j + 1) cap l i ⟨g, 0, none⟩ ⟨g + 1, 0, none⟩ n hn hi hl u ((Kept.trans kv ku).read b0) ((Kept.trans kv ku).read b1) (HR.out.kept (Kept.trans K0 (Kept.trans kv ku)))))
  obtain ⟨b, off, rfl, hc⟩ := HR.out (by omega)
  obtain ⟨c1, _⟩ := hc j (by omega)
  rw [et] at c1
  have g0 : (0 : Int) ≤ (j : Int) := by omega
  have g1 : (0 : Int) < (j : Int) + 1 := by omega
  have dt : decide (at_ < t) = false := by simp; omega
  clear hc et
  go_wp2_with fail
  refine (timely8_yes ht _).mono ?_
  rintro e v0 ⟨rfl, k0⟩
  have b0' := k0.read b0
  clear b0
  have b0 := b0'
  clear b0'
  go_wp2_with fail
  refine (check8_ok _ (j + 1) cap l true hn hl (by simp [hm]) _ (HR.out.kept (Kept.trans K0 k0))).mono ?_
  rintro e v1 ⟨rfl, k1⟩
  have b1' := k1.read b0
  clear b0
  have b0 := b1'
  clear b1'
  have c2 := k1.read (k0.read (K0.read c1))
  clear c1
  have kA := Kept.trans (Kept.trans K0 k0) k1
  have kB := Kept.trans k0 k1
  have bn := kB.read b1
  clear b1
  go_wp2_with fail
  refine (SR.out _ kB).mono ?_
  rintro e v2 ⟨rfl, k2⟩
  go_upto_region 6 with fail
  have b2 := k2.read b0
  have H_r := Lib.hid b2
  have bn' := k2.read bn
  clear bn
  have bn := bn'
  clear bn' b2
  have kC := Kept.trans kA k2
  have i0 : (0 : Int) ≤ (k : Int) := by omega
  have hkl : k ≤ j + 1 := by have := hk.1; omega
  have hcap : k ≤ cap := by have := hs.1; omega
  have hcapI : (k : Int) ≤ (cap : Int) := by omega
  have hcap0 : ¬ cap = 0 := by have := hs.1; omega
  have i1 : (0 : Int) ≤ (f : Int) := by omega
  have hfk : f ≤ k := hf.1
  have i2 : (f : Int) ≤ (k : Int) := by omega
  have FRp := Lib.hid (fun p : KW v2 => fresh_ok (some ⟨b, off, none⟩) k cap l window at_ f (by omega) (by omega) (by unfold IsTime at ht; unfold In64; omega) ht.1 (fun i hi => by have := (hm i (by omega)).1; unfold IsTime at this; unfold In64; omega) hf p.w (HR.out.kept (Kept.trans kC p.k)))
  clear SR hf hk hta hm ht
  subst hkf
  go_upto_region 6 with fail
  have B_r := Lib.hid (Kept.alln1 (show Kept v2 v2 from (by (repeat (first | with_reducible exact Kept.refl _ | with_reducible apply Kept.drew | with_reducible apply Kept.alloc | ((with_reducible apply Kept.set); focus (simp <;> omega)) | ((with_reducible apply Kept.via); focus with_reducible assumption))))) H_r)
  have kall : Kept w v2 := (by (repeat (first | with_reducible exact Kept.refl _ | with_reducible apply Kept.drew | with_reducible apply Kept.alloc | ((with_reducible apply Kept.set); focus (simp <;> omega)) | ((with_reducible apply Kept.via); focus with_reducible assumption))))
  have q_r0 := kwn1 B_r
  clear B_r
  refine wp_region_kept (by kernel_rfl) (by as_aux_lemma => kernel_rfl) ?_
  repeat (go_big_quiet_step (first | (with_reducible exact kept_of (FRp.out _))))
  refine wpQuiet_nil ?_
  intro wq hw'
  have kq : Kept v2 wq := by obtain ⟨p, rfl⟩ := hw'; exact p.k
  clear hw'
  clear kall
  have cn := kq.read bn
  go_wp2_with fail
  refine (laid_one _ 0 0 [] ⟨Nat.le_refl _, by omega, fun h => by first | rfl | cases h⟩ (by simp; done) (by omega) at_ n ⟨wq.heap.size, 0, none⟩ _ (cells_two_new _ _ _ _ 0 _ rfl) (cells_two_new _ _ _ _ 1 _ rfl) (RowM.kept (rowM_nil w _) ((Kept.trans kC kq).alloc _ _))).mono ?_
  rintro e u ⟨B, c, rfl, sok, rown, ku⟩
  go_wp2
  go_ret2
  exact ⟨B, c, rfl, sok, rown w ((Kept.trans kC kq).alloc _ _) _, Kept.trans ((Kept.trans kC kq).alloc _ _) ku⟩
theorem lput_c : LPutC := fun A cap l window at_ n l' er hs hl hi hw ha h0 h w hr => by
  rcases h with ⟨hb, rfl, rfl⟩ | ⟨hm, ht, hw0, he, hb, rfl, rfl⟩ | ⟨hm, ht, hw0, hb, rfl, rfl⟩
  · by_cases ht : IsTime at_
    · by_cases hw0 : window < 0
      · exact put8_neg A l'.length cap l' window at_ n hs rfl hl ht hw0 w hr
      · exact put8_bad A l'.length cap l' window at_ n hs rfl hl ht (by omega) (fun z => hb ⟨z, ht, by omega⟩) w hr
    · exact put8_time A l'.length cap l' window at_ n hs rfl hl ht w hr
  · have : 0 < l'.length := by
      rcases Nat.eq_zero_or_pos l'.length with z | z
      · exact absurd (List.eq_nil_of_length_eq_zero z) he
      · exact z
    exact put8_back A l'.length cap l' window at_ n hs rfl hl ht hw0 hm (l'.length - 1) (by omega) _ rfl hb w hr
  · rcases Nat.eq_zero_or_pos l.length with z | z
    · obtain rfl : l = [] := List.eq_nil_of_length_eq_zero z
      exact put8_first A 0 cap [] window at_ n hs rfl hl ht hw0 hm rfl w hr
    · obtain ⟨k, hk⟩ := fromAt_ex hm n
      obtain ⟨f, hf⟩ := sinceAt_ex hm (at_ - window) k hk.1
      have hta : (lastOf l).1 ≤ at_ := by
        rcases hb with hb | hb
        · rw [hb] at z; exact absurd z (by simp)
        · exact hb
      by_cases hkf : k = f
      · have q := put8_gone A l.length cap l window at_ n hs rfl hl ht hw0 hm (l.length - 1) (by omega) _ rfl hta f k hk hf hkf w hr
        have e : keptL l (at_ - window) n = [] := by
          rw [kept_cut hk hf]; exact List.drop_eq_nil_of_le (by rw [List.length_take]; omega)
        rw [e]
        exact q
      have q := put8_yes A l.length cap l window at_ n hs rfl hl ht hw0 hm (l.length - 1) (by omega) _ rfl hta f k hk hf hkf w hr
      have e : (keptL l (at_ - window) n ++ [(at_, n)]).length = k - f + 1 := by
        rw [kept_cut hk hf, List.length_append, List.length_drop, List.length_take]
        have := hk.1
        simp; omega
      rw [e, kept_cut hk hf]
      exact q
end Go.Proofs.Ytpbchcpbjflnoaa
