/-
  sort.Search over the closures of package least, and the function fresh.
-/
import Derived.Test.YtpbchcpbjflnoaaMarks08
import Derived.Test.YtpbchcpbjflnoaaKwN
import Derived.Test.YtpbchcpbjflnoaaQuiet
import Derived.Deep.DeepCutAuto
namespace Go.Proofs.Ytpbchcpbjflnoaa
open Go.RowKit Go.BigFrame
set_option linter.unusedVariables false

/-- Where marks of some kind begin, of those that rise. -/
theorem bound_ex (p : Nat → Prop) [DecidablePred p] (m : Nat) (h : ∀ a b, a ≤ b → b < m → p a → p b) : ∃ k, k ≤ m ∧ (∀ t, t < k → ¬ p t) ∧ ∀ t, k ≤ t → t < m → p t := by
  rcases first_ex p m with ⟨k, hk, h1, h2⟩ | h1
  · exact ⟨k, by omega, h2, fun t ht hm => h k t ht hm h1⟩
  · exact ⟨m, Nat.le_refl _, h1, fun t ht hm => absurd hm (by omega)⟩
/-- Numbers from n on begin at k. -/
def FromAt (l : List (Int × Int)) (n : Int) (k : Nat) : Prop := k ≤ l.length ∧ (∀ t, t < k → (mk l t).2 < n) ∧ ∀ t, k ≤ t → t < l.length → n ≤ (mk l t).2
theorem fromAt_ex {l : List (Int × Int)} (h : MayL l) (n : Int) : ∃ k, FromAt l n k := by
  obtain ⟨k, h1, h2, h3⟩ := bound_ex (fun t => n ≤ (mk l t).2) l.length (fun a b hab hb ha => Int.le_trans ha (may_le h hab hb).2)
  exact ⟨k, h1, fun t ht => Int.not_le.1 (h2 t ht), h3⟩
/-- Of the first m, times from fr on begin at k. -/
def SinceAt (l : List (Int × Int)) (m : Nat) (fr : Int) (k : Nat) : Prop := k ≤ m ∧ m ≤ l.length ∧ (∀ t, t < k → (mk l t).1 < fr) ∧ ∀ t, k ≤ t → t < m → fr ≤ (mk l t).1
theorem sinceAt_ex {l : List (Int × Int)} (h : MayL l) (fr : Int) (m : Nat) (hm : m ≤ l.length) : ∃ k, SinceAt l m fr k := by
  obtain ⟨k, h1, h2, h3⟩ := bound_ex (fun t => fr ≤ (mk l t).1) m (fun a b hab hb ha => Int.le_trans ha (may_le h hab (by omega)).1)
  exact ⟨k, h1, hm, fun t ht => Int.not_le.1 (h2 t ht), h3⟩
theorem kept_cut {l : List (Int × Int)} {fr n : Int} {k f : Nat} (hk : FromAt l n k) (hf : SinceAt l k fr f) : keptL l fr n = (l.take k).drop f := by
  have e : l = (l.take k).take f ++ ((l.take k).drop f ++ l.drop k) := by
    rw [← List.append_assoc, List.take_append_drop, List.take_append_drop]
  have m1 : ∀ m ∈ (l.take k).take f, ∃ t, t < f ∧ t < k ∧ t < l.length ∧ mk l t = m := fun m hm => by
    obtain ⟨i, hi⟩ := List.mem_iff_getElem?.1 hm
    rw [List.getElem?_take] at hi
    split at hi
    · rw [List.getElem?_take] at hi
      split at hi
      · have hl : i < l.length := by
          rcases Nat.lt_or_ge i l.length with z | z
          · exact z
          · rw [List.getElem?_eq_none z] at hi; cases hi
        rw [mk_lt hl] at hi
        exact ⟨i, by assumption, by assumption, hl, Option.some.inj hi⟩
      · cases hi
    · cases hi
  have m2 : ∀ m ∈ (l.take k).drop f, ∃ t, f ≤ t ∧ t < k ∧ t < l.length ∧ mk l t = m := fun m hm => by
    obtain ⟨i, hi⟩ := List.mem_iff_getElem?.1 hm
    rw [List.getElem?_drop, List.getElem?_take] at hi
    split at hi
    · have hl : f + i < l.length := by
        rcases Nat.lt_or_ge (f + i) l.length with z | z
        · exact z
        · rw [List.getElem?_eq_none z] at hi; cases hi
      rw [mk_lt hl] at hi
      exact ⟨f + i, by omega, by assumption, hl, Option.some.inj hi⟩
    · cases hi
  have m3 : ∀ m ∈ l.drop k, ∃ t, k ≤ t ∧ t < l.length ∧ mk l t = m := fun m hm => by
    obtain ⟨i, hi⟩ := List.mem_iff_getElem?.1 hm
    rw [List.getElem?_drop] at hi
    have hl : k + i < l.length := by
      rcases Nat.lt_or_ge (k + i) l.length with z | z
      · exact z
      · rw [List.getElem?_eq_none z] at hi; cases hi
    rw [mk_lt hl] at hi
    exact ⟨k + i, by omega, hl, Option.some.inj hi⟩
  have f1 : ((l.take k).take f).filter (fun m => decide (m.2 < n) && decide (fr ≤ m.1)) = [] := List.filter_eq_nil_iff.2 (fun m hm => by
    obtain ⟨t, h1, _, _, rfl⟩ := m1 m hm
    have := hf.2.2.1 t h1
    simp; omega)
  have f2 : ((l.take k).drop f).filter (fun m => decide (m.2 < n) && decide (fr ≤ m.1)) = (l.take k).drop f := List.filter_eq_self.2 (fun m hm => by
    obtain ⟨t, h1, h2, h3, rfl⟩ := m2 m hm
    have a := hf.2.2.2 t h1 h2
    have b := hk.2.1 t h2
    simp; omega)
  have f3 : (l.drop k).filter (fun m => decide (m.2 < n) && decide (fr ≤ m.1)) = [] := List.filter_eq_nil_iff.2 (fun m hm => by
    obtain ⟨t, h1, h2, rfl⟩ := m3 m hm
    have := hk.2.2 t h1 h2
    simp; omega)
  unfold keptL
  conv => lhs; rw [e]
  rw [List.filter_append, List.filter_append, f1, f2, f3, List.nil_append, List.append_nil]
theorem mk_drop {l : List (Int × Int)} {f j : Nat} : mk (l.drop f) j = mk l (f + j) := by simp [mk, List.getD, List.getElem?_drop]
theorem RowM.take {w : World} {A : Option Addr} {l : List (Int × Int)} (h : RowM w A l) (k : Nat) : RowM w A (l.take k) := fun h0 => by
  have h0' : 0 < l.length := by simp at h0; omega
  obtain ⟨b, off, e, hc⟩ := h h0'
  refine ⟨b, off, e, fun j hj => ?_⟩
  have hj' : j < k ∧ j < l.length := by simp at hj; omega
  rw [mk_take hj'.1]
  exact hc j hj'.2
/-- What is cut off a row lies further behind. -/
theorem RowM.cut {w : World} {A : Option Addr} {l : List (Int × Int)} (h : RowM w A l) (k f : Nat) (hf : f ≤ k) (hk : k ≤ l.length) {B : Option Addr} (hB : f < k → B = A.map (·.add (f * 2))) : RowM w B ((l.take k).drop f) := fun h0 => by
  have hl : ((l.take k).drop f).length = k - f := by simp; omega
  have h0' : f < k := by omega
  obtain ⟨b, off, e, hc⟩ := h (by omega)
  refine ⟨b, off + f * 2, by rw [hB h0', e]; simp [Addr.add_lit], fun j hj => ?_⟩
  rw [mk_drop, mk_take (by omega)]
  have q := hc (f + j) (by omega)
  rw [show off + f * 2 + j * 2 = off + (f + j) * 2 by omega]
  exact q
/-- Between two places, where what is sought lies. -/
def Seeking (n k : Nat) (w : World) (s5 s6 : Value) (wr : World) : Prop := ∃ lo hi : Nat, s5 = .int .i64 lo ∧ s6 = .int .i64 hi ∧ lo ≤ k ∧ k ≤ hi ∧ hi ≤ n ∧ Kept w wr
set_option maxRecDepth 100000 in
set_option maxHeartbeats 1600000 in
theorem search_put (n k : Nat) (p q : Addr) (w : World) (hn : n ≤ 1099511627777) (hk : k ≤ n) (C : ∀ i : Nat, i < n → ∀ v, Kept w v → Calls Try.prog 23 #[.int .i64 i, .pointer (some p), .pointer (some q)] v fun e w' => e = .returned (.bool (decide (k ≤ i))) ∧ Kept v w') :
    Calls Try.prog 22 #[.int .i64 n, .func (Fn.func 23) #[] #[.pointer (some p), .pointer (some q)]] w fun e w' => e = .returned (.int .i64 k) ∧ Kept w w' := by
  have C' := Lib.hid C
  clear C
  go_enter Try.func22, Try.ntmps22
  go_wp2_with fail
  go_loopw [5, 6] (fun s5 s6 wr => Seeking n k w s5 s6 wr) (fun s5 s6 _ => (intOf s6).toNat - (intOf s5).toNat)
  case atStart => exact ⟨0, n, rfl, rfl, Nat.zero_le _, hk, Nat.le_refl _, Kept.refl _⟩
  case round =>
    obtain ⟨lo, hi, rfl, rfl, g1, g2, g3, kw⟩ := hrel
    by_cases hlt : lo < hi
    · have hltI : (lo : Int) < (hi : Int) := by omega
      have ei : (((lo + hi) / 2 : Nat) : Int) = ((lo : Int) + (hi : Int)) / 2 := by omega
      have D := C'.out ((lo + hi) / 2) (by omega)
      rw [ei] at D
      have D' := Lib.hid D
      have EI := Lib.hid ei
      clear D ei
      by_cases hc : k ≤ (lo + hi) / 2
      · have hd : decide (k ≤ (lo + hi) / 2) = true := by simp [hc]
        rw [hd] at D'
        clear hd
        go_wp2_with fail
        refine (D'.out _ kw).mono ?_
        rintro e w1 ⟨rfl, k1⟩
        go_wp2_with fail
        go_roundw
        case rel => exact ⟨lo, (lo + hi) / 2, rfl, by rw [EI.out], by omega, by omega, by omega, Kept.trans kw k1⟩
        case measure => have := EI.out; simp [intOf]; omega
      · have hd : decide (k ≤ (lo + hi) / 2) = false := by simp [hc]
        rw [hd] at D'
        clear hd
        go_wp2_with fail
        refine (D'.out _ kw).mono ?_
        rintro e w1 ⟨rfl, k1⟩
        go_wp2_with fail
        go_roundw
        case rel => exact ⟨(lo + hi) / 2 + 1, hi, by rw [← EI.out]; go_num, rfl, by omega, by omega, by omega, Kept.trans kw k1⟩
        case measure => have := EI.out; simp [intOf]; omega
    · obtain rfl : hi = lo := by omega
      obtain rfl : k = hi := by omega
      go_wp2_with fail
      go_ret
      exact ⟨rfl, kw⟩
set_option maxRecDepth 100000 in
set_option maxHeartbeats 1600000 in
theorem search_fresh (n k : Nat) (p q r : Addr) (w : World) (hn : n ≤ 1099511627777) (hk : k ≤ n) (C : ∀ i : Nat, i < n → ∀ v, Kept w v → Calls Try.prog 28 #[.int .i64 i, .pointer (some p), .pointer (some q), .pointer (some r)] v fun e w' => e = .returned (.bool (decide (k ≤ i))) ∧ Kept v w') :
    Calls Try.prog 22 #[.int .i64 n, .func (Fn.func 28) #[] #[.pointer (some p), .pointer (some q), .pointer (some r)]] w fun e w' => e = .returned (.int .i64 k) ∧ Kept w w' := by
  have C' := Lib.hid C
  clear C
  go_enter Try.func22, Try.ntmps22
  go_wp2_with fail
  go_loopw [5, 6] (fun s5 s6 wr => Seeking n k w s5 s6 wr) (fun s5 s6 _ => (intOf s6).toNat - (intOf s5).toNat)
  case atStart => exact ⟨0, n, rfl, rfl, Nat.zero_le _, hk, Nat.le_refl _, Kept.refl _⟩
  case round =>
    obtain ⟨lo, hi, rfl, rfl, g1, g2, g3, kw⟩ := hrel
    by_cases hlt : lo < hi
    · have hltI : (lo : Int) < (hi : Int) := by omega
      have ei : (((lo + hi) / 2 : Nat) : Int) = ((lo : Int) + (hi : Int)) / 2 := by omega
      have D := C'.out ((lo + hi) / 2) (by omega)
      rw [ei] at D
      have D' := Lib.hid D
      have EI := Lib.hid ei
      clear D ei
      by_cases hc : k ≤ (lo + hi) / 2
      · have hd : decide (k ≤ (lo + hi) / 2) = true := by simp [hc]
        rw [hd] at D'
        clear hd
        go_wp2_with fail
        refine (D'.out _ kw).mono ?_
        rintro e w1 ⟨rfl, k1⟩
        go_wp2_with fail
        go_roundw
        case rel => exact ⟨lo, (lo + hi) / 2, rfl, by rw [EI.out], by omega, by omega, by omega, Kept.trans kw k1⟩
        case measure => have := EI.out; simp [intOf]; omega
      · have hd : decide (k ≤ (lo + hi) / 2) = false := by simp [hc]
        rw [hd] at D'
        clear hd
        go_wp2_with fail
        refine (D'.out _ kw).mono ?_
        rintro e w1 ⟨rfl, k1⟩
        go_wp2_with fail
        go_roundw
        case rel => exact ⟨(lo + hi) / 2 + 1, hi, by rw [← EI.out]; go_num, rfl, by omega, by omega, by omega, Kept.trans kw k1⟩
        case measure => have := EI.out; simp [intOf]; omega
    · obtain rfl : hi = lo := by omega
      obtain rfl : k = hi := by omega
      go_wp2_with fail
      go_ret
      exact ⟨rfl, kw⟩
set_option maxRecDepth 100000 in
set_option maxHeartbeats 1600000 in
theorem closure_put (A : Option Addr) (len cap : Nat) (l : List (Int × Int)) (i : Nat) (p q : Addr) (n : Int) (hn : l.length = len) (hi : i < len) (hl : len ≤ 1099511627776) (w : World) (h0 : w.cell? p = some (.slice (A) len cap)) (h1 : w.cell? q = some (.int .i64 n)) (hr : RowM w A l) : Calls Try.prog 23 #[.int .i64 i, .pointer (some p), .pointer (some q)] w fun e w' => e = .returned (.bool (decide (n ≤ (mk l i).2))) ∧ Kept w w' := by
  have HR := Lib.hid hr
  obtain ⟨b, off, rfl, hc⟩ := HR.out (by omega)
  obtain ⟨_, c⟩ := hc i (by omega)
  have g0 : (0 : Int) ≤ (i : Int) := by omega
  have g1 : (i : Int) < (len : Int) := by omega
  generalize (mk l i).2 = m at *
  have H_r := Lib.hid (And.intro h0 (And.intro h1 c))
  clear hc h0 h1 c hn
  clear hr
  go_enter Try.func23, Try.ntmps23
  go_upto_region 1 with fail
  have B_r := Lib.hid (Kept.all3 (show Kept w w from (by (repeat (first | with_reducible exact Kept.refl _ | with_reducible apply Kept.drew | with_reducible apply Kept.alloc | ((with_reducible apply Kept.set); focus (simp <;> omega)) | ((with_reducible apply Kept.via); focus with_reducible assumption))))) H_r)
  have kall : Kept w w := (by (repeat (first | with_reducible exact Kept.refl _ | with_reducible apply Kept.drew | with_reducible apply Kept.alloc | ((with_reducible apply Kept.set); focus (simp <;> omega)) | ((with_reducible apply Kept.via); focus with_reducible assumption))))
  obtain ⟨q_r0, q_r1, q_r2⟩ := kw3 B_r
  clear B_r
  refine wp_region_kept (by kernel_rfl) (by as_aux_lemma => kernel_rfl) ?_
  repeat (go_big_quiet_step (first | fail))
  refine wpQuiet_nil ?_
  intro wq hw'
  have kq : Kept w wq := by obtain ⟨p, rfl⟩ := hw'; exact p.k
  clear hw'
  clear kall
  go_wp2
  go_ret
  exact ⟨rfl, kq⟩
set_option maxRecDepth 100000 in
set_option maxHeartbeats 1600000 in
theorem closure_fresh (A : Option Addr) (len cap : Nat) (l : List (Int × Int)) (i : Nat) (p q r : Addr) (at_ window : Int) (ha : In64 at_) (h0 : 0 ≤ at_) (hm : 0 ≤ (mk l i).1 ∧ In64 (mk l i).1) (hn : l.length = len) (hi : i < len) (hl : len ≤ 1099511627776) (w : World) (h0 : w.cell? p = some (.int .i64 at_)) (h1 : w.cell? q = some (.slice (A) len cap)) (h2 : w.cell? r = some (.int .i64 window)) (hr : RowM w A l) : Calls Try.prog 28 #[.int .i64 i, .pointer (some p), .pointer (some q), .pointer (some r)] w fun e w' => e = .returned (.bool (decide (at_ - (mk l i).1 ≤ window))) ∧ Kept w w' := by
  have HR := Lib.hid hr
  obtain ⟨b, off, rfl, hc⟩ := HR.out (by omega)
  obtain ⟨c, _⟩ := hc i (by omega)
  have g0 : (0 : Int) ≤ (i : Int) := by omega
  have g1 : (i : Int) < (len : Int) := by omega
  generalize (mk l i).1 = m at *
  have e0 : IntKind.i64.wrap (at_ - m) = at_ - m := by rw [IntKind.wrap_i64]; unfold In64 at *; omega
  have H_r := Lib.hid (And.intro h0 (And.intro h1 (And.intro h2 c)))
  clear hc h0 h1 h2 c hn
  clear hr
  go_enter Try.func28, Try.ntmps28
  go_upto_region 1 with fail
  have B_r := Lib.hid (Kept.alln4 (show Kept w w from (by (repeat (first | with_reducible exact Kept.refl _ | with_reducible apply Kept.drew | with_reducible apply Kept.alloc | ((with_reducible apply Kept.set); focus (simp <;> omega)) | ((with_reducible apply Kept.via); focus with_reducible assumption))))) H_r)
  have kall : Kept w w := (by (repeat (first | with_reducible exact Kept.refl _ | with_reducible apply Kept.drew | with_reducible apply Kept.alloc | ((with_reducible apply Kept.set); focus (simp <;> omega)) | ((with_reducible apply Kept.via); focus with_reducible assumption))))
  obtain ⟨q_r0, q_r1, q_r2, q_r3⟩ := kwn4 B_r
  clear B_r
  refine wp_region_kept (by kernel_rfl) (by as_aux_lemma => kernel_rfl) ?_
  repeat (go_big_quiet_step (first | fail))
  refine wpQuiet_nil ?_
  intro wq hw'
  have kq : Kept w wq := by obtain ⟨p, rfl⟩ := hw'; exact p.k
  clear hw'
  clear kall
  go_wp2
  go_ret
  exact ⟨rfl, kq⟩
set_option maxRecDepth 100000 in
set_option maxHeartbeats 1600000 in
theorem fresh_ok (A : Option Addr) (len cap : Nat) (l : List (Int × Int)) (window at_ : Int) (f : Nat) (hn : len ≤ l.length) (hl : len ≤ 1099511627776) (ha : In64 at_) (h0 : 0 ≤ at_) (hm : ∀ i, i < len → 0 ≤ (mk l i).1 ∧ In64 (mk l i).1) (hf : SinceAt l len (at_ - window) f) (w : World) (hr : RowM w A l) :
    Calls Try.prog 24 #[.slice A len cap, .int .i64 window, .int .i64 at_] w fun e w' => e = .returned (.int .i64 f) ∧ Kept w w' := by
  have HR := Lib.hid hr
  have HM := Lib.hid hm
  have HF := Lib.hid hf
  have HT := Lib.hid (show (l.take len).length = len from by simp; omega)
  clear hr hm hf
  go_enter Try.func24, Try.ntmps24
  go_upto_region 1 with fail
  generalize hW : World.alloc _ _ = W
  have K0 : Kept w W := by subst hW; exact (((Kept.refl _).alloc _ _).alloc _ _).alloc _ _
  have c0 : W.cell? ⟨w.heap.size, 0, none⟩ = some (.slice A len cap) := by subst hW; simp [go_sem]
  have c1 : W.cell? ⟨w.heap.size + 1, 0, none⟩ = some (.int .i64 window) := by subst hW; simp [go_sem]
  have c2 : W.cell? ⟨w.heap.size + 2, 0, none⟩ = some (.int .i64 at_) := by subst hW; simp [go_sem]
  clear hW
  generalize w.heap.size = g at *
  have S := Lib.hid (search_fresh len f ⟨g + 2, 0, none⟩ ⟨g, 0, none⟩ ⟨g + 1, 0, none⟩ W (by omega) HF.out.1 (fun i hi v kv => by
    have hd : decide (f ≤ i) = decide (at_ - (mk (l.take len) i).1 ≤ window) := by
      rw [mk_take hi]
      have h1 := HF.out.2.2.1 i
      have h2 := HF.out.2.2.2 i
      by_cases z : f ≤ i
      · have := h2 z hi; simp [z]; omega
      · have := h1 (by omega); simp [z]; omega
    rw [hd]
    exact closure_fresh A len cap (l.take len) i ⟨g + 2, 0, none⟩ ⟨g, 0, none⟩ ⟨g + 1, 0, none⟩ at_ window ha h0 (by rw [mk_take hi]; exact HM.out i hi) HT.out hi hl v (kv.read c2) (kv.read c0) (kv.read c1) ((HR.out.kept (Kept.trans K0 kv)).take len)))
  have c0' := c0
  clear c1 c2
  go_wp2_with fail
  refine (S.out).mono ?_
  rintro e w1 ⟨rfl, k1⟩
  go_wp2
  go_ret
  exact ⟨rfl, Kept.trans K0 k1⟩
end Go.Proofs.Ytpbchcpbjflnoaa
