/-
  The document's Parts of layer 19, and its comparison of two lists.
-/
import Derived.Test.YtdbikeehoildlaaDoorRef19
import Derived.Test.YtdbikeehoildlaaDoorAppRow
import Derived.Test.YtdbikeehoildlaaDoorRoom
import Derived.OwnWalk
import Derived.Deep.RegionHeld3
import Derived.Deep.DeepCutAuto
namespace Go.Proofs.YtdbikeehoildlaaDoor
open Go.RowKit Go.BigFrame
set_option linter.unusedVariables false

theorem infoCf : (Tryd.prog.info? 23).map (fun i => (i.zero, i.size, i.bytes)) = some (some (.agg #[.int .i64 0, .int .i64 0, .int .i64 0, .int .i64 0, .int .i64 0, .int .i64 0, .int .i64 0]), 7, 56) := by kernel_rfl
theorem cells_seven_new (w : World) (a b c d e f g : Value) (t : TypeId) : ∀ j u, [a, b, c, d, e, f, g][j]? = some u → (w.alloc (.cells #[a, b, c, d, e, f, g] t)).cell? ((⟨w.heap.size, 0, none⟩ : Addr).add j) = some u := by
  intro j u hj
  match j, hj with
  | 0, hj => simp at hj; subst hj; simp [Addr.add, go_sem]
  | 1, hj => simp at hj; subst hj; simp [Addr.add, go_sem]
  | 2, hj => simp at hj; subst hj; simp [Addr.add, go_sem]
  | 3, hj => simp at hj; subst hj; simp [Addr.add, go_sem]
  | 4, hj => simp at hj; subst hj; simp [Addr.add, go_sem]
  | 5, hj => simp at hj; subst hj; simp [Addr.add, go_sem]
  | 6, hj => simp at hj; subst hj; simp [Addr.add, go_sem]
  | j + 7, hj => simp at hj
theorem parts_take (l : List Cf) (e : Int) {k : Nat} (h : k < l.length) : partsC (l.take (k + 1)) e = if cfgE (cf0 l k) = e then partsC (l.take k) e ++ [cf0 l k] else partsC (l.take k) e := by
  have q : l.take (k + 1) = l.take k ++ [cf0 l k] := by
    rw [List.take_add_one]
    simp [cf0, List.getD, h]
  rw [q, parts_next]
theorem parts_take_len (l : List Cf) (e : Int) (k : Nat) : (partsC (l.take k) e).length ≤ k := by
  have := parts_len (l.take k) e
  rw [List.length_take] at this
  omega
theorem parts_all {l : List Cf} {k : Nat} (e : Int) (h : l.length = k) : partsC (l.take k) e = partsC l e := by rw [List.take_of_length_le (by omega)]
theorem cf_in {l : List Cf} (h : ∀ c ∈ l, CfIn c) {k : Nat} (hk : k < l.length) : CfIn (cf0 l k) := by
  have e : cf0 l k = l[k] := by simp [cf0, List.getD, hk]
  rw [e]; exact h _ (List.getElem_mem _)
set_option maxRecDepth 100000 in
set_option maxHeartbeats 3200000 in
theorem refParts19_ok {A : Option Addr} {len cap n : Nat} {l ys : List Cf} {er : Int} (hn : l.length = len) (hl : len ≤ 1099511627776) (hy : partsC l er = ys) (hm : ys.length = n) (w : World) (hr : RowC w A l) : Calls Tryd.prog 22 #[.slice A len cap, .int .i64 er] w fun e w' => ∃ (B : Option Addr) (c : Nat), e = .returned (.slice B n c) ∧ SliceOk B n c ∧ RowC w' B ys ∧ (∀ a, B = some a → w.heap.size ≤ a.block) ∧ Kept w w' := by
  have HR := Lib.hid hr
  have HN := Lib.hid hn
  have HY := Lib.hid hy
  have HM := Lib.hid hm
  clear hr hn hy hm
  obtain ⟨i0, hi, hz0, hz1, hz2⟩ := info_parts infoCf
  obtain ⟨g0, hg⟩ : ∃ g0, w.heap.size = g0 := ⟨_, rfl⟩
  go_enter Tryd.func22, Tryd.ntmps22
  go_wp2
  go_loopw [5, 6] (fun ov i wr => ∃ k : Nat, k ≤ len ∧ i = .int .i64 k ∧ wr.ownsRow g0 23 7 ov (partsC (l.take k) er).length ((partsC (l.take k) er).flatMap cfs) ∧ Kept w wr) (fun _ i _ => len - (intOf i).toNat)
  case atStart => exact ⟨0, Nat.zero_le _, rfl, World.ownsRow_nil _ _ _ _, Kept.refl _⟩
  case round =>
    obtain ⟨k, hk, rfl, own, kw⟩ := hrel
    have hK := parts_take_len l er k
    have OW := Lib.hid own
    clear own
    by_cases hlt : k < len
    · have hltI : (k : Int) < (len : Int) := by omega
      have hlt' : k < l.length := by have := HN.out; omega
      have NXT := Lib.hid (parts_take l er hlt')
      obtain ⟨b, off, rfl, hc⟩ := (HR.out.kept kw) (by omega)
      obtain ⟨c0, c1, c2, c3, c4, c5, c6⟩ := RowC.cells hc hlt'
      clear hc
      obtain ⟨xsg, xmx, xfi, xgn, xls, xgt, xbu, ek⟩ : ∃ xsg xmx xfi xgn xls xgt xbu : Int, cf0 l k = ⟨xsg, xmx, xfi, xgn, xls, xgt, xbu⟩ := ⟨_, _, _, _, _, _, _, rfl⟩
      rw [ek] at c0 c1 c2 c3 c4 c5 c6
      dsimp only at c0 c1 c2 c3 c4 c5 c6
      rw [ek] at NXT
      have CK := Lib.hid (fun w => refCheck19_ok (c := (⟨xsg, xmx, xfi, xgn, xls, xgt, xbu⟩ : Cf)) (n := cfgE (⟨xsg, xmx, xfi, xgn, xls, xgt, xbu⟩ : Cf)) rfl w)
      have H_r := Lib.hid (And.intro c0 (And.intro c1 (And.intro c2 (And.intro c3 (And.intro c4 (And.intro c5 c6))))))
      generalize partsC (l.take k) er = KK at *
      generalize cfgE (⟨xsg, xmx, xfi, xgn, xls, xgt, xbu⟩ : Cf) = ce at *
      go_wp2_with fail
      refine (CK.out _).mono ?_
      rintro e w1 ⟨rfl, k1⟩
      clear c0 c1 c2 c3 c4 c5 c6
      have kwn1 := Kept.trans kw k1
      by_cases he : ce = er
      · have d0 : (ce == er) = true := by simp [he]
        obtain ⟨c0, c1, c2, c3, c4, c5, c6⟩ := Kept.alln7 k1 H_r
        go_wp2_with (at_builtin; refine wpList_append_kept rfl _ _ 26 rfl w g0 hg 23 i0 (.agg #[.int .i64 0, .int .i64 0, .int .i64 0, .int .i64 0, .int .i64 0, .int .i64 0, .int .i64 0]) 7 56 Tryd.underlying26 hi hz0 hz1 hz2 rfl (by decide) _ _ _ rfl (World.ownsRow.alloc (own_kept OW.out k1) _) (Kept.alloc kwn1 _ _) ⟨_, 0, none⟩ 1 1 [.int .i64 xsg, .int .i64 xmx, .int .i64 xfi, .int .i64 xgn, .int .i64 xls, .int .i64 xgt, .int .i64 xbu] rfl rfl (cells_seven_new _ _ _ _ _ _ _ _ _) (by intro u hu; simp at hu; rcases hu with rfl | rfl | rfl | rfl | rfl | rfl | rfl <;> rfl) (by decide) (by unfold maxLen; omega) (by omega) ?_)
        intro v' w3 own3 k3 g3 z3 o3
        have OW3 := Lib.hid (show w3.ownsRow g0 23 7 v' (partsC (l.take (k + 1)) er).length ((partsC (l.take (k + 1)) er).flatMap cfs) from by
          rw [NXT.out, if_pos he, List.length_append, flat_one]
          exact own3)
        clear own3 g3 z3 o3 c0 c1 c2 c3 c4 c5 c6
        go_wp2
        go_roundw
        case rel => exact ⟨k + 1, by omega, by go_num, OW3.out, k3⟩
        case measure => simp [intOf]; omega
      · have d0 : (ce == er) = false := by simp [he]
        have OW2 := Lib.hid (show w1.ownsRow g0 23 7 _ (partsC (l.take (k + 1)) er).length ((partsC (l.take (k + 1)) er).flatMap cfs) from by
          rw [NXT.out, if_neg he]
          exact own_kept OW.out k1)
        go_wp2
        go_roundw
        case rel => exact ⟨k + 1, by omega, by go_num, OW2.out, kwn1⟩
        case measure => simp [intOf]; omega
    · obtain rfl : k = len := by omega
      have OWE := Lib.hid (show wr.ownsRow g0 23 7 _ n (ys.flatMap cfs) from by
        have h := OW.out
        rw [parts_all er HN.out, HY.out, HM.out] at h
        exact h)
      obtain ⟨B, c, rfl, sok, hrow, hnew⟩ := own_rowC HM.out OWE.out
      clear OW OWE
      go_wp2
      go_ret
      exact ⟨B, c, rfl, sok, hrow, fun a ha => by have := (hnew a ha).1; omega, kw⟩
set_option maxRecDepth 100000 in
set_option maxHeartbeats 1600000 in
theorem refSame19_ok {A B : Option Addr} {len cap cap2 : Nat} {l : List Cf} (hn : l.length = len) (hl : len ≤ 1099511627776) (w : World) (hr : RowC w A l) (hr2 : RowC w B l) : Calls Tryd.prog 21 #[.slice A len cap, .slice B len cap2] w fun e w' => e = .returned (.bool true) ∧ Kept w w' := by
  have HR := Lib.hid hr
  have HR2 := Lib.hid hr2
  have HN := Lib.hid hn
  clear hr hr2 hn
  go_enter Tryd.func21, Tryd.ntmps21
  go_wp2
  go_loopw [5] (fun i wr => ∃ k : Nat, k ≤ len ∧ i = .int .i64 k ∧ Kept w wr) (fun i _ => len - (intOf i).toNat)
  case atStart => exact ⟨0, Nat.zero_le _, rfl, Kept.refl _⟩
  case round =>
    obtain ⟨k, hk, rfl, kw⟩ := hrel
    by_cases hlt : k < len
    · have hltI : (k : Int) < (len : Int) := by omega
      have hlt' : k < l.length := by have := HN.out; omega
      obtain ⟨b2, off2, rfl, hc2⟩ := (HR2.out.kept kw) (by omega)
      obtain ⟨d0, d1, d2, d3, d4, d5, d6⟩ := RowC.cells hc2 hlt'
      clear hc2
      obtain ⟨b, off, rfl, hc⟩ := (HR.out.kept kw) (by omega)
      obtain ⟨c0, c1, c2, c3, c4, c5, c6⟩ := RowC.cells hc hlt'
      clear hc
      obtain ⟨xsg, xmx, xfi, xgn, xls, xgt, xbu, ek⟩ : ∃ xsg xmx xfi xgn xls xgt xbu : Int, cf0 l k = ⟨xsg, xmx, xfi, xgn, xls, xgt, xbu⟩ := ⟨_, _, _, _, _, _, _, rfl⟩
      rw [ek] at c0 c1 c2 c3 c4 c5 c6
      dsimp only at c0 c1 c2 c3 c4 c5 c6
      rw [ek] at d0 d1 d2 d3 d4 d5 d6
      dsimp only at d0 d1 d2 d3 d4 d5 d6
      clear ek
      have H_r := Lib.hid (And.intro c0 (And.intro c1 (And.intro c2 (And.intro c3 (And.intro c4 (And.intro c5 c6))))))
      have H_q := Lib.hid (And.intro d0 (And.intro d1 (And.intro d2 (And.intro d3 (And.intro d4 (And.intro d5 d6))))))
      clear c0 c1 c2 c3 c4 c5 c6 d0 d1 d2 d3 d4 d5 d6
      go_upto_region 6 with fail
      have B_r := Lib.hid (Kept.alln7 (show Kept wr wr from (by (repeat (first | with_reducible exact Kept.refl _ | with_reducible apply Kept.drew | with_reducible apply Kept.alloc | ((with_reducible apply Kept.set); focus (simp <;> omega)) | ((with_reducible apply Kept.via); focus with_reducible assumption))))) H_r)
      have B_q := Lib.hid (Kept.alln7 (show Kept wr wr from (by (repeat (first | with_reducible exact Kept.refl _ | with_reducible apply Kept.drew | with_reducible apply Kept.alloc | ((with_reducible apply Kept.set); focus (simp <;> omega)) | ((with_reducible apply Kept.via); focus with_reducible assumption))))) H_q)
      have kall : Kept w wr := (by (repeat (first | with_reducible exact Kept.refl _ | with_reducible apply Kept.drew | with_reducible apply Kept.alloc | ((with_reducible apply Kept.set); focus (simp <;> omega)) | ((with_reducible apply Kept.via); focus with_reducible assumption))))
      obtain ⟨q_r0, q_r1, q_r2, q_r3, q_r4, q_r5, q_r6⟩ := kwn7 B_r
      obtain ⟨q_q0, q_q1, q_q2, q_q3, q_q4, q_q5, q_q6⟩ := kwn7 B_q
      clear B_r B_q
      refine wp_region_kept (by kernel_rfl) (by as_aux_lemma => kernel_rfl) ?_
      repeat (go_big_quiet_step (first | fail))
      refine wpQuiet_nil ?_
      intro wq hw'
      have kq : Kept wr wq := by obtain ⟨p, rfl⟩ := hw'; exact p.k
      clear hw'
      clear kall
      go_wp2
      go_roundw
      case rel => exact ⟨k + 1, by omega, by go_num, Kept.trans kw kq⟩
      case measure => simp [intOf]; omega
    · obtain rfl : k = len := by omega
      go_wp2
      go_ret
      exact ⟨rfl, kw⟩
end Go.Proofs.YtdbikeehoildlaaDoor
