/-
  The document's All of layer 20.
-/
import Derived.Test.YtbpdimogigcacaaRefA20
import Derived.OwnWalk
import Derived.RangeFuncBox
import Derived.Deep.RegionHeld3
import Derived.Deep.DeepCutAuto
namespace Go.Proofs.Ytbpdimogigcacaa
open Go.RowKit Go.BigFrame
set_option linter.unusedVariables false

/-- What is told after the first k. -/
def aV (R : Nat → List Int) (k : Nat) : List Ev := (allV (firstR R k)).1
def aB (R : Nat → List Int) (k : Nat) : List Int := (allV (firstR R k)).2
theorem aV_zero (R : Nat → List Int) : aV R 0 = [] := rfl
theorem aB_zero (R : Nat → List Int) : aB R 0 = [] := rfl
theorem aV_next (R : Nat → List Int) (k : Nat) : aV R (k + 1) = if stepE (aV R k) (R k) = 0 then aV R k ++ [decV (R k)] else aV R k := by unfold aV; rw [firstR_next, all_next]; rfl
theorem aB_next (R : Nat → List Int) (k : Nat) : aB R (k + 1) = aB R k ++ [stepE (aV R k) (R k)] := by unfold aB aV; rw [firstR_next, all_next]; rfl
theorem aB_len (R : Nat → List Int) (k : Nat) : (aB R k).length = k := by have := (all_len (firstR R k)).1; rw [firstR_len] at this; exact this
theorem aV_len (R : Nat → List Int) (k : Nat) : (aV R k).length ≤ k := by have := (all_len (firstR R k)).2; rw [firstR_len] at this; exact this
set_option maxRecDepth 100000 in
set_option maxHeartbeats 6400000 in
theorem refAll20_ok {A : Option Addr} {len cap n : Nat} {B : Nat → Option Addr} {C : Nat → Nat} {R : Nat → List Int} {l : List Ev} {bad : List Int} (hl : len ≤ 1099511627776) (ha : allV (firstR R len) = (l, bad)) (hn : l.length = n) (w : World) (hr : RowS .i64 w A len B C R) : Calls Try.prog 14 #[.slice A len cap] w fun e w' => ∃ (B1 : Option Addr) (c1 : Nat) (B2 : Option Addr) (c2 : Nat), e = .returned (.tuple #[.slice B1 n c1, .slice B2 len c2]) ∧ SliceOk B1 n c1 ∧ SliceOk B2 len c2 ∧ RowV w' B1 l ∧ RowK .i64 w' B2 bad ∧ (∀ a, B1 = some a → w.heap.size ≤ a.block) ∧ (∀ a, B2 = some a → w.heap.size ≤ a.block) ∧ Kept w w' := by
  have HR := Lib.hid hr
  have HA := Lib.hid (show aV R len = l ∧ aB R len = bad from by unfold aV aB; rw [ha]; exact ⟨rfl, rfl⟩)
  have HN := Lib.hid hn
  clear hr ha hn
  obtain ⟨iv, hv0, hv1, hv2, hv3⟩ := info_parts infoEv
  obtain ⟨ie, he0, he1, he2, he3⟩ := info_parts infoEr
  obtain ⟨g0, hg⟩ : ∃ g0, w.heap.size = g0 := ⟨_, rfl⟩
  go_enter Try.func14, Try.ntmps14
  go_wp2
  go_loopw [4, 5, 6] (fun ov bv i wr => ∃ k : Nat, k ≤ len ∧ i = .int .i64 k ∧ wr.ownsRow g0 23 4 ov (aV R k).length ((aV R k).flatMap evs) ∧ wr.ownsRow g0 28 1 bv k ((aB R k).map (.int .i64)) ∧ Apart ov bv ∧ Kept w wr) (fun _ _ i _ => len - (intOf i).toNat)
  case atStart => exact ⟨0, Nat.zero_le _, rfl, World.ownsRow_nil _ _ _ _, World.ownsRow_nil _ _ _ _, Or.inl rfl, Kept.refl _⟩
  case round =>
    obtain ⟨k, hk, rfl, own1, own2, ap, kw⟩ := hrel
    have OV := Lib.hid own1
    have OB := Lib.hid own2
    have AP := Lib.hid ap
    have hK := aV_len R k
    clear own1 own2 ap
    by_cases hlt : k < len
    · have hltI : (k : Int) < (len : Int) := by omega
      have NV := Lib.hid (aV_next R k)
      have NB := Lib.hid (aB_next R k)
      obtain ⟨b, off, rfl, hc⟩ := (HR.out.1.kept kw) (by omega)
      have c0 : wr.cell? ⟨b, off + k, none⟩ = some (.slice (B k) (R k).length (C k)) := hc k hlt
      have RW := Lib.hid ((HR.out.2 k hlt).2.kept kw)
      clear hc
      obtain ⟨xk, xa, xb, xr, ek⟩ : ∃ xk xa xb xr : Int, decV (R k) = (xk, xa, xb, xr) := ⟨_, _, _, _, rfl⟩
      obtain ⟨er, ee⟩ : ∃ er, decE (R k) = er := ⟨_, rfl⟩
      have DC := Lib.hid (fun w (h : RowK .i64 w (B k) (R k)) => refDecode20_ok (cap := C k) rfl ek ee w h)
      have SE := Lib.hid (show stepE (aV R k) (R k) = if er = 0 ∧ aV R k ≠ [] ∧ xa < (lastV (aV R k)).2.1 then 50 else er from by unfold stepE; rw [ek, ee])
      rw [ek] at NV
      generalize (R k).length = q at *
      clear ek ee
      go_wp2_with fail
      refine (DC.out _ RW.out).mono ?_
      rintro e w1 ⟨rfl, k1⟩
      clear c0
      go_upto_region 7 with fail
      generalize hW : World.alloc w1 (.cells #[.int .i64 xk, .int .i64 xa, .int .i64 xb, .int .i64 xr] 23) = W_e
      have K_e : Kept w1 W_e := by subst hW; exact (Kept.refl _).alloc _ _
      have E0 := Lib.hid (show RV W_e w1.heap.size xk xa xb xr from by subst hW; exact ⟨⟨by simp [go_sem], by simp [go_sem], by simp [go_sem], by simp [go_sem]⟩, by simp [go_sem], by simp [go_sem], by simp [go_sem], by simp [go_sem]⟩)
      clear hW
      generalize w1.heap.size = ge at *
      have kwe := Kept.trans (Kept.trans kw k1) K_e
      have OV1 := Lib.hid (own_kept OV.out (Kept.trans k1 K_e))
      have OB1 := Lib.hid (own_kept OB.out (Kept.trans k1 K_e))
      clear OV OB kw k1 K_e RW
      generalize hv : aV R k = lv at *
      generalize hb : aB R k = lb at *
      by_cases h0 : er = 0
      · subst h0
        by_cases hz : lv.length = 0
        · have hnil : lv = [] := List.eq_nil_of_length_eq_zero hz
          subst hnil
          obtain ⟨Av, cv, eov⟩ := own_form (n := 0) OV1.out
          subst eov
          clear hz
          have H_e := Lib.hid E0.out.1
          go_upto_region 7 with fail
          have B_e := Lib.hid (Kept.alln4 (show Kept W_e W_e from (by (repeat (first | with_reducible exact Kept.refl _ | with_reducible apply Kept.drew | with_reducible apply Kept.alloc | ((with_reducible apply Kept.set); focus (simp <;> omega)) | ((with_reducible apply Kept.via); focus with_reducible assumption))))) H_e)
          have kall : Kept w W_e := (by (repeat (first | with_reducible exact Kept.refl _ | with_reducible apply Kept.drew | with_reducible apply Kept.alloc | ((with_reducible apply Kept.set); focus (simp <;> omega)) | ((with_reducible apply Kept.via); focus with_reducible assumption))))
          obtain ⟨q_e0, q_e1, q_e2, q_e3⟩ := kwn4 B_e
          clear B_e
          refine wp_region_kept (by kernel_rfl) (by as_aux_lemma => kernel_rfl) ?_
          repeat (go_big_quiet_step (first | fail))
          refine wpQuiet_nil ?_
          intro wq hw'
          have kq : Kept W_e wq := by obtain ⟨p, rfl⟩ := hw'; exact p.k
          clear hw'
          clear kall
          have kwq := Kept.trans kwe kq
          have OV2 := Lib.hid (own_kept OV1.out kq)
          have OB2 := Lib.hid (own_kept OB1.out kq)
          clear OV1 OB1
          have NV2 := Lib.hid (show aV R (k + 1) = ([] : List Ev) ++ [(xk, xa, xb, xr)] from by rw [NV.out, if_pos (by rw [SE.out]; rw [if_neg (fun z => z.2.1 rfl)])])
          have NB2 := Lib.hid (show aB R (k + 1) = lb ++ [0] from by rw [NB.out, SE.out]; rw [if_neg (fun z => z.2.1 rfl)])
          obtain ⟨c0, c1, c2, c3⟩ := (E0.out.kept kq).1
          go_wp2_with (at_builtin; refine wpList_append_kept rfl _ _ 31 rfl w g0 hg 23 iv (.agg #[.int .i64 0, .int .i64 0, .int .i64 0, .int .i64 0]) 4 32 Try.underlying31 hv0 hv1 hv2 hv3 rfl (by decide) _ _ _ rfl (World.ownsRow.alloc OV2.out _) (Kept.alloc kwq _ _) ⟨_, 0, none⟩ 1 1 [.int .i64 xk, .int .i64 xa, .int .i64 xb, .int .i64 xr] rfl rfl (cells_four_new _ _ _ _ _ _) (by intro u hu; simp at hu; rcases hu with rfl | rfl | rfl | rfl <;> rfl) (by decide) (by unfold maxLen; omega) (by omega) ?_)
          intro v3 w3 own3 k3 g3 z3 o3
          have OB3 := Lib.hid (own_apart (World.ownsRow.alloc OB2.out _) AP.out g3)
          have AP3 := Lib.hid (Apart.next AP.out o3 OB2.out (by simp))
          have OV3 := Lib.hid (show w3.ownsRow g0 23 4 v3 (aV R (k + 1)).length ((aV R (k + 1)).flatMap evs) from by rw [NV2.out, List.length_append, flat_one]; exact own3)
          clear g3 z3 o3 own3 c0 c1 c2 c3
          go_wp2_with (at_builtin; refine wpList_append_kept rfl _ _ 32 rfl w g0 hg 28 ie (.int .i64 0) 1 8 Try.underlying32 he0 he1 he2 he3 rfl (by decide) _ _ _ rfl (World.ownsRow.alloc OB3.out _) (Kept.alloc k3 _ _) ⟨_, 0, none⟩ 1 1 [.int .i64 0] rfl rfl (cells_one_new _ _ _) (by intro u hu; simp at hu; rcases hu with rfl; rfl) (by decide) (by unfold maxLen; omega) (by omega) ?_)
          intro v4 w4 own4 k4 g4 z4 o4
          have OV4 := Lib.hid (own_apart (World.ownsRow.alloc OV3.out _) AP3.out.symm g4)
          have AP4 := Lib.hid (Apart.symm (Apart.next AP3.out.symm o4 OV3.out (by simp)))
          clear g4 z4 o4
          go_wp2
          go_roundw
          case rel => exact ⟨k + 1, by omega, by go_num, OV4.out, by rw [NB2.out, List.map_append]; exact own4, AP4.out, k4⟩
          case measure => simp [intOf]; omega
        · obtain ⟨m, hm⟩ : ∃ m, lv.length = m + 1 := ⟨lv.length - 1, by omega⟩
          obtain ⟨gv, cv, eov⟩ := ownsRow_succ (k := m) (by rw [← hm]; exact OV1.out)
          subst eov
          have y1 := OV1.out.cells (g := gv) rfl (m * 4 + 1) (.int .i64 (lastV lv).2.1) (by
            have q := flat_get evs_len (0, 0, 0, 0) lv m 1 (by omega) (by omega)
            rw [q]
            have e : lastV lv = lv.getD m (0, 0, 0, 0) := by unfold lastV ev0; rw [hm]; rfl
            rw [e]; rfl)
          rw [Addr.add_lit] at y1
          simp only [Nat.zero_add] at y1
          obtain ⟨tl, etl⟩ : ∃ tl, (lastV lv).2.1 = tl := ⟨_, rfl⟩
          rw [etl] at y1 SE
          have H_y := Lib.hid y1
          have hne : lv ≠ [] := fun z => by rw [z] at hm; simp at hm
          have hlm := Lib.hid hm
          have l0 : (0 : Int) < (m : Int) + 1 := by omega
          have l1 : (0 : Int) ≤ (m : Int) := by omega
          have l2 : (m : Int) < (m : Int) + 1 := by omega
          have hmk : m ≤ 1099511627776 := by omega
          clear y1 hm hz
          by_cases hat : xa < tl
          · have d0 : decide (xa < tl) = true := decide_eq_true hat
            have H_e := Lib.hid E0.out.1
            go_upto_region 7 with fail
            have B_e := Lib.hid (Kept.alln4 (show Kept W_e W_e from (by (repeat (first | with_reducible exact Kept.refl _ | with_reducible apply Kept.drew | with_reducible apply Kept.alloc | ((with_reducible apply Kept.set); focus (simp <;> omega)) | ((with_reducible apply Kept.via); focus with_reducible assumption))))) H_e)
            have B_y := Lib.hid (Kept.alln1 (show Kept W_e W_e from (by (repeat (first | with_reducible exact Kept.refl _ | with_reducible apply Kept.drew | with_reducible apply Kept.alloc | ((with_reducible apply Kept.set); focus (simp <;> omega)) | ((with_reducible apply Kept.via); focus with_reducible assumption))))) H_y)
            have kall : Kept w W_e := (by (repeat (first | with_reducible exact Kept.refl _ | with_reducible apply Kept.drew | with_reducible apply Kept.alloc | ((with_reducible apply Kept.set); focus (simp <;> omega)) | ((with_reducible apply Kept.via); focus with_reducible assumption))))
            obtain ⟨q_e0, q_e1, q_e2, q_e3⟩ := kwn4 B_e
            have q_y0 := kwn1 B_y
            clear B_e B_y
            refine wp_region_kept (by kernel_rfl) (by as_aux_lemma => kernel_rfl) ?_
            repeat (go_big_quiet_step (first | fail))
            refine wpQuiet_nil ?_
            intro wq hw'
            have kq : Kept W_e wq := by obtain ⟨p, rfl⟩ := hw'; exact p.k
            clear hw'
            clear kall
            have kwq := Kept.trans kwe kq
            have OV2 := Lib.hid (own_kept OV1.out kq)
            have OB2 := Lib.hid (own_kept OB1.out kq)
            clear OV1 OB1
            have NV2 := Lib.hid (show aV R (k + 1) = lv from by rw [NV.out, if_neg (by rw [SE.out]; rw [if_pos ⟨rfl, hne, hat⟩]; decide)])
            have NB2 := Lib.hid (show aB R (k + 1) = lb ++ [50] from by rw [NB.out, SE.out]; rw [if_pos ⟨rfl, hne, hat⟩])
            go_wp2_with (at_builtin; refine wpList_append_kept rfl _ _ 32 rfl w g0 hg 28 ie (.int .i64 0) 1 8 Try.underlying32 he0 he1 he2 he3 rfl (by decide) _ _ _ rfl (World.ownsRow.alloc OB2.out _) (Kept.alloc kwq _ _) ⟨_, 0, none⟩ 1 1 [.int .i64 50] rfl rfl (cells_one_new _ _ _) (by intro u hu; simp at hu; rcases hu with rfl; rfl) (by decide) (by unfold maxLen; omega) (by omega) ?_)
            intro v3 w3 own3 k3 g3 z3 o3
            have OV3 := Lib.hid (own_apart (World.ownsRow.alloc OV2.out _) AP.out.symm g3)
            have AP3 := Lib.hid (Apart.symm (Apart.next AP.out.symm o3 OV2.out (by simp)))
            clear g3 z3 o3
            go_wp2
            go_roundw
            case rel => exact ⟨k + 1, by omega, by go_num, by rw [NV2.out]; exact OV3.out, by rw [NB2.out, List.map_append]; exact own3, AP3.out, k3⟩
            case measure => simp [intOf]; omega
          · have d0 : decide (xa < tl) = false := by simp; omega
            have H_e := Lib.hid E0.out.1
            go_upto_region 7 with fail
            have B_e := Lib.hid (Kept.alln4 (show Kept W_e W_e from (by (repeat (first | with_reducible exact Kept.refl _ | with_reducible apply Kept.drew | with_reducible apply Kept.alloc | ((with_reducible apply Kept.set); focus (simp <;> omega)) | ((with_reducible apply Kept.via); focus with_reducible assumption))))) H_e)
            have B_y := Lib.hid (Kept.alln1 (show Kept W_e W_e from (by (repeat (first | with_reducible exact Kept.refl _ | with_reducible apply Kept.drew | with_reducible apply Kept.alloc | ((with_reducible apply Kept.set); focus (simp <;> omega)) | ((with_reducible apply Kept.via); focus with_reducible assumption))))) H_y)
            have kall : Kept w W_e := (by (repeat (first | with_reducible exact Kept.refl _ | with_reducible apply Kept.drew | with_reducible apply Kept.alloc | ((with_reducible apply Kept.set); focus (simp <;> omega)) | ((with_reducible apply Kept.via); focus with_reducible assumption))))
            obtain ⟨q_e0, q_e1, q_e2, q_e3⟩ := kwn4 B_e
            have q_y0 := kwn1 B_y
            clear B_e B_y
            refine wp_region_kept (by kernel_rfl) (by as_aux_lemma => kernel_rfl) ?_
            repeat (go_big_quiet_step (first | fail))
            refine wpQuiet_nil ?_
            intro wq hw'
            have kq : Kept W_e wq := by obtain ⟨p, rfl⟩ := hw'; exact p.k
            clear hw'
            clear kall
            have kwq := Kept.trans kwe kq
            have OV2 := Lib.hid (own_kept OV1.out kq)
            have OB2 := Lib.hid (own_kept OB1.out kq)
            clear OV1 OB1
            have NV2 := Lib.hid (show aV R (k + 1) = lv ++ [(xk, xa, xb, xr)] from by rw [NV.out, if_pos (by rw [SE.out]; rw [if_neg (fun z => hat z.2.2)])])
            have NB2 := Lib.hid (show aB R (k + 1) = lb ++ [0] from by rw [NB.out, SE.out]; rw [if_neg (fun z => hat z.2.2)])
            obtain ⟨c0, c1, c2, c3⟩ := (E0.out.kept kq).1
            go_wp2_with (at_builtin; refine wpList_append_kept rfl _ _ 31 rfl w g0 hg 23 iv (.agg #[.int .i64 0, .int .i64 0, .int .i64 0, .int .i64 0]) 4 32 Try.underlying31 hv0 hv1 hv2 hv3 rfl (by decide) _ _ _ rfl (World.ownsRow.alloc OV2.out _) (Kept.alloc kwq _ _) ⟨_, 0, none⟩ 1 1 [.int .i64 xk, .int .i64 xa, .int .i64 xb, .int .i64 xr] rfl rfl (cells_four_new _ _ _ _ _ _) (by intro u hu; simp at hu; rcases hu with rfl | rfl | rfl | rfl <;> rfl) (by decide) (by unfold maxLen; omega) (by omega) ?_)
            intro v3 w3 own3 k3 g3 z3 o3
            have OB3 := Lib.hid (own_apart (World.ownsRow.alloc OB2.out _) AP.out g3)
            have AP3 := Lib.hid (Apart.next AP.out o3 OB2.out (by simp))
            have OV3 := Lib.hid (show w3.ownsRow g0 23 4 v3 (aV R (k + 1)).length ((aV R (k + 1)).flatMap evs) from by rw [NV2.out, List.length_append, flat_one]; exact own3)
            clear g3 z3 o3 own3 c0 c1 c2 c3
            go_wp2_with (at_builtin; refine wpList_append_kept rfl _ _ 32 rfl w g0 hg 28 ie (.int .i64 0) 1 8 Try.underlying32 he0 he1 he2 he3 rfl (by decide) _ _ _ rfl (World.ownsRow.alloc OB3.out _) (Kept.alloc k3 _ _) ⟨_, 0, none⟩ 1 1 [.int .i64 0] rfl rfl (cells_one_new _ _ _) (by intro u hu; simp at hu; rcases hu with rfl; rfl) (by decide) (by unfold maxLen; omega) (by omega) ?_)
            intro v4 w4 own4 k4 g4 z4 o4
            have OV4 := Lib.hid (own_apart (World.ownsRow.alloc OV3.out _) AP3.out.symm g4)
            have AP4 := Lib.hid (Apart.symm (Apart.next AP3.out.symm o4 OV3.out (by simp)))
            clear g4 z4 o4
            go_wp2
            go_roundw
            case rel => exact ⟨k + 1, by omega, by go_num, OV4.out, by rw [NB2.out, List.map_append]; exact own4, AP4.out, k4⟩
            case measure => simp [intOf]; omega
      · have d0 : (er == 0) = false := by simp [h0]
        have H_e := Lib.hid E0.out.1
        go_upto_region 7 with fail
        have B_e := Lib.hid (Kept.alln4 (show Kept W_e W_e from (by (repeat (first | with_reducible exact Kept.refl _ | with_reducible apply Kept.drew | with_reducible apply Kept.alloc | ((with_reducible apply Kept.set); focus (simp <;> omega)) | ((with_reducible apply Kept.via); focus with_reducible assumption))))) H_e)
        have kall : Kept w W_e := (by (repeat (first | with_reducible exact Kept.refl _ | with_reducible apply Kept.drew | with_reducible apply Kept.alloc | ((with_reducible apply Kept.set); focus (simp <;> omega)) | ((with_reducible apply Kept.via); focus with_reducible assumption))))
        obtain ⟨q_e0, q_e1, q_e2, q_e3⟩ := kwn4 B_e
        clear B_e
        refine wp_region_kept (by kernel_rfl) (by as_aux_lemma => kernel_rfl) ?_
        repeat (go_big_quiet_step (first | fail))
        refine wpQuiet_nil ?_
        intro wq hw'
        have kq : Kept W_e wq := by obtain ⟨p, rfl⟩ := hw'; exact p.k
        clear hw'
        clear kall
        have kwq := Kept.trans kwe kq
        have OV2 := Lib.hid (own_kept OV1.out kq)
        have OB2 := Lib.hid (own_kept OB1.out kq)
        clear OV1 OB1
        have NV2 := Lib.hid (show aV R (k + 1) = lv from by rw [NV.out, if_neg (by rw [SE.out]; rw [if_neg (fun z => h0 z.1)]; exact h0)])
        have NB2 := Lib.hid (show aB R (k + 1) = lb ++ [er] from by rw [NB.out, SE.out]; rw [if_neg (fun z => h0 z.1)])
        go_wp2_with (at_builtin; refine wpList_append_kept rfl _ _ 32 rfl w g0 hg 28 ie (.int .i64 0) 1 8 Try.underlying32 he0 he1 he2 he3 rfl (by decide) _ _ _ rfl (World.ownsRow.alloc OB2.out _) (Kept.alloc kwq _ _) ⟨_, 0, none⟩ 1 1 [.int .i64 er] rfl rfl (cells_one_new _ _ _) (by intro u hu; simp at hu; rcases hu with rfl; rfl) (by decide) (by unfold maxLen; omega) (by omega) ?_)
        intro v3 w3 own3 k3 g3 z3 o3
        have OV3 := Lib.hid (own_apart (World.ownsRow.alloc OV2.out _) AP.out.symm g3)
        have AP3 := Lib.hid (Apart.symm (Apart.next AP.out.symm o3 OV2.out (by simp)))
        clear g3 z3 o3
        go_wp2
        go_roundw
        case rel => exact ⟨k + 1, by omega, by go_num, by rw [NV2.out]; exact OV3.out, by rw [NB2.out, List.map_append]; exact own3, AP3.out, k3⟩
        case measure => simp [intOf]; omega
    · obtain rfl : k = len := by omega
      have OVE := Lib.hid (show wr.ownsRow g0 23 4 _ n (l.flatMap evs) from by
        have h := OV.out
        rw [HA.out.1, HN.out] at h
        exact h)
      have OBE := Lib.hid (show wr.ownsRow g0 28 1 _ k (bad.map (.int .i64)) from by
        have h := OB.out
        rw [HA.out.2] at h
        exact h)
      obtain ⟨B1, c1, rfl, s1, r1, n1⟩ := own_rowV HN.out OVE.out
      obtain ⟨B2, c2, rfl, s2, r2, n2⟩ := own_rowK (by rw [← HA.out.2]; exact aB_len R k) OBE.out
      clear OV OB OVE OBE AP
      go_wp2
      go_ret2
      exact ⟨B1, c1, B2, c2, rfl, s1, s2, r1, r2, fun a ha => by have := (n1 a ha).1; omega, fun a ha => by have := (n2 a ha).1; omega, kw⟩
end Go.Proofs.Ytbpdimogigcacaa
