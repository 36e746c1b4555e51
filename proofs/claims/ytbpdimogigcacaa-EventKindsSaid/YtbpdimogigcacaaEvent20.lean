/-
  What the landed All does.
-/
import Derived.Test.YtbpdimogigcacaaEvc20
import Derived.Test.YtbpdimogigcacaaMade
import Derived.Test.YtbpdimogigcacaaCopyN
import Derived.OwnWalk
import Derived.Deep.RegionHeld3
import Derived.Deep.DeepCutAuto
namespace Go.Proofs.Ytbpdimogigcacaa
open Go.RowKit Go.BigFrame
set_option linter.unusedVariables false

theorem off_own {g m : Nat} {v v' : Value} (h : some g ≠ v.ownBlock) (hg : g < m) (o : v'.ownBlock = v.ownBlock ∨ v'.ownBlock = some (m + 1)) : some g ≠ v'.ownBlock := by
  rcases o with o | o <;> rw [o]
  · exact h
  · intro z; have := Option.some.inj z; omega
/-- When the last one came. -/
def tmV (l : List Ev) : Int := if l = [] then 0 else (lastV l).2.1
theorem tm_add (l : List Ev) (x : Ev) : tmV (l ++ [x]) = x.2.1 := by unfold tmV lastV ev0; simp [List.getD]
theorem tm_lt {l : List Ev} {xa : Int} (h0 : 0 ≤ xa) : (l ≠ [] ∧ xa < (lastV l).2.1) ↔ xa < tmV l := by
  unfold tmV
  by_cases z : l = []
  · rw [if_pos z]; exact ⟨fun q => absurd z q.1, fun q => by omega⟩
  · rw [if_neg z]; exact ⟨fun q => q.2, fun q => ⟨z, q⟩⟩
set_option maxRecDepth 100000 in
set_option maxHeartbeats 6400000 in
theorem vall {A : Option Addr} {len cap n : Nat} {B : Nat → Option Addr} {C : Nat → Nat} {R : Nat → List Int} {l : List Ev} {bad : List Int} (hl : len ≤ 1099511627776) (ha : allV (firstR R len) = (l, bad)) (hn : l.length = n) (w : World) (hr : RowS .i64 w A len B C R) : Calls Try.prog 13 #[.slice A len cap] w fun e w' => ∃ (B1 : Option Addr) (c1 : Nat) (B2 : Option Addr) (c2 : Nat), e = .returned (.tuple #[.slice B1 n c1, .slice B2 len c2]) ∧ SliceOk B1 n c1 ∧ SliceOk B2 len c2 ∧ RowV w' B1 l ∧ RowK .i64 w' B2 bad ∧ (∀ a, B1 = some a → w.heap.size ≤ a.block) ∧ (∀ a, B2 = some a → w.heap.size ≤ a.block) ∧ Kept w w' := by
  have HR := Lib.hid hr
  have HA := Lib.hid (show aV R len = l ∧ aB R len = bad from by unfold aV aB; rw [ha]; exact ⟨rfl, rfl⟩)
  have HN := Lib.hid hn
  clear hr ha hn
  obtain ⟨iv, hv0, hv1, hv2, hv3⟩ := info_parts infoEv
  obtain ⟨ie, he0, he1, he2, he3⟩ := info_parts infoEr
  obtain ⟨g0, hg⟩ : ∃ g0, w.heap.size = g0 := ⟨_, rfl⟩
  go_enter Try.func13, Try.ntmps13
  go_wp2_with (at_make; refine wpList_make_len_kept rfl _ _ 32 rfl w g0 hg 28 ie (.int .i64 0) 1 Try.underlying32 he0 he1 he2 (Kept.refl _) _ _ _ _ len len rfl rfl rfl rfl (Nat.le_refl _) (by rw [he3]; omega) (by unfold maxLen; omega) ?_)
  intro w2 xs own2 k2 _
  have M0 := Lib.hid (made_ownI own2)
  have kz0 := k2
  clear own2 k2
  go_wp2
  go_loopw [4, 6, 16] (fun ov nw iv wr => ∃ k : Nat, k ≤ len ∧ iv = .int .i64 k ∧ nw = .int .i64 (tmV (aV R k)) ∧ wr.ownsRow g0 23 4 ov (aV R k).length ((aV R k).flatMap evs) ∧ some g0 ≠ ov.ownBlock ∧ MadeI wr g0 len (aB R k) ∧ Kept w wr) (fun _ _ i _ => len - (intOf i).toNat)
  case atStart => exact ⟨0, Nat.zero_le _, rfl, rfl, World.ownsRow_nil _ _ _ _, off_nil _, M0.out, kz0⟩
  case round =>
    clear kz0 M0
    obtain ⟨k, hk, rfl, rfl, own1, off1, mk1, kw⟩ := hrel
    have OV := Lib.hid own1
    have OFF := Lib.hid off1
    have MD := Lib.hid mk1
    have hK := aV_len R k
    have HL := Lib.hid (aB_len R k)
    clear own1 off1 mk1
    by_cases hlt : k < len
    · have hltI : (k : Int) < (len : Int) := by omega
      have NV := Lib.hid (aV_next R k)
      have NB := Lib.hid (aB_next R k)
      obtain ⟨b, off, rfl, hc⟩ := (HR.out.1.kept kw) (by omega)
      have c0 : wr.cell? ⟨b, off + k, none⟩ = some (.slice (B k) (R k).length (C k)) := hc k hlt
      have RW := Lib.hid ((HR.out.2 k hlt).2.kept kw)
      clear hc
      obtain ⟨xk, xa, xb, xr, ek⟩ : ∃ xk xa xb xr : Int, decV (R k) = (xk, xa, xb, xr) := ⟨_, _, _, _, rfl⟩
      obtain ⟨er, ee⟩ : ∃ er, decE (R k) = er := ⟨_, rfl⟩
      have DC := Lib.hid (fun w (h : RowK .i64 w (B k) (R k)) => vdec (cap := C k) rfl ek ee w h)
      have SE := Lib.hid (show stepE (aV R k) (R k) = if er = 0 ∧ aV R k ≠ [] ∧ xa < (lastV (aV R k)).2.1 then 50 else er from by unfold stepE; rw [ek, ee])
      have MT := Lib.hid (show er = 0 → IsTime xa from fun z => by have := (dec_ok (ee.trans z)).2.2.2.1; rw [ek] at this; exact this)
      rw [ek] at NV
      generalize (R k).length = q at *
      clear ek ee
      go_wp2_with fail
      refine (DC.out _ RW.out).mono ?_
      rintro e w1 ⟨rfl, k1⟩
      clear c0
      go_upto_region 8 with fail
      generalize hW : World.alloc w1 (.cells #[.int .i64 xk, .int .i64 xa, .int .i64 xb, .int .i64 xr] 23) = W_e
      have K_e : Kept w1 W_e := by subst hW; exact (Kept.refl _).alloc _ _
      have E0 := Lib.hid (show RV W_e w1.heap.size xk xa xb xr from by subst hW; exact ⟨⟨by simp [go_sem], by simp [go_sem], by simp [go_sem], by simp [go_sem]⟩, by simp [go_sem], by simp [go_sem], by simp [go_sem], by simp [go_sem]⟩)
      clear hW
      generalize w1.heap.size = ge at *
      have kwe := Kept.trans (Kept.trans kw k1) K_e
      have OV1 := Lib.hid (own_kept OV.out (Kept.trans k1 K_e))
      have MD1 := Lib.hid (MD.out.kept (Kept.trans k1 K_e))
      clear OV MD kw k1 K_e RW
      generalize hv : aV R k = lv at *
      generalize hb : aB R k = lb at *
      obtain ⟨tm, et⟩ : ∃ tm, tmV lv = tm := ⟨_, rfl⟩
      have TM := Lib.hid et
      rw [et]
      clear et
      by_cases h0 : er = 0
      · subst h0
        have ht := MT.out rfl
        have LT := Lib.hid (tm_lt (l := lv) ht.1)
        rw [TM.out] at LT
        by_cases hat : xa < tm
        · have ST := Lib.hid (fun w => Step_ok (Or.inr (Or.inl ⟨ht, hat, rfl, rfl⟩)) w)
          have NV2 := Lib.hid (show aV R (k + 1) = lv from by rw [NV.out, if_neg (by rw [SE.out, if_pos ⟨rfl, LT.out.2 hat⟩]; decide)])
          have NB2 := Lib.hid (show aB R (k + 1) = lb ++ [50] from by rw [NB.out, SE.out, if_pos ⟨rfl, LT.out.2 hat⟩])
          clear ht hat
          obtain ⟨c0, c1, c2, c3⟩ := E0.out.1
          go_wp2_with fail
          refine (ST.out _).mono ?_
          rintro e w3 ⟨rfl, k3⟩
          clear c0 c1 c2 c3
          have OV2 := Lib.hid (own_kept OV1.out k3)
          have MD2 := Lib.hid (MD1.out.kept k3)
          clear OV1 MD1
          obtain ⟨⟨u, hu⟩, hfz⟩ := MD2.out.1 k hlt
          go_wp2
          go_roundw
          case rel => exact ⟨k + 1, by omega, by go_num, by rw [NV2.out, TM.out], own_set (by rw [NV2.out]; exact OV2.out) _ (by exact OFF.out), OFF.out, (by have := MD2.out.put 50 (by rw [HL.out]; exact hlt); rw [HL.out] at this; rw [NB2.out]; exact this), (by (repeat (first | with_reducible exact Kept.refl _ | with_reducible apply Kept.drew | with_reducible apply Kept.alloc | ((with_reducible apply Kept.set); focus (simp <;> omega)) | ((with_reducible apply Kept.via); focus with_reducible assumption))))⟩
          case measure => simp [intOf]; omega
        · have ST := Lib.hid (fun w => Step_ok (Or.inr (Or.inr ⟨ht, Int.not_lt.1 hat, rfl, rfl⟩)) w)
          have NV2 := Lib.hid (show aV R (k + 1) = lv ++ [(xk, xa, xb, xr)] from by rw [NV.out, if_pos (by rw [SE.out, if_neg (fun z => hat (LT.out.1 z.2))])])
          have NB2 := Lib.hid (show aB R (k + 1) = lb ++ [0] from by rw [NB.out, SE.out, if_neg (fun z => hat (LT.out.1 z.2))])
          clear ht hat
          obtain ⟨c0, c1, c2, c3⟩ := E0.out.1
          go_wp2_with fail
          refine (ST.out _).mono ?_
          rintro e w3 ⟨rfl, k3⟩
          clear c0 c1 c2 c3
          have OV2 := Lib.hid (own_kept OV1.out k3)
          have MD2 := Lib.hid (MD1.out.kept k3)
          have kwq := Kept.trans kwe k3
          clear OV1 MD1
          obtain ⟨c0, c1, c2, c3⟩ := (E0.out.kept k3).1
          have gz : g0 < w3.heap.size := by obtain ⟨⟨u, hu⟩, _⟩ := MD2.out.1 k hlt; exact cell_lt hu
          go_wp2_with (at_builtin; refine wpList_append_kept rfl _ _ 31 rfl w g0 hg 23 iv (.agg #[.int .i64 0, .int .i64 0, .int .i64 0, .int .i64 0]) 4 32 Try.underlying31 hv0 hv1 hv2 hv3 rfl (by decide) _ _ _ rfl (World.ownsRow.alloc OV2.out _) (Kept.alloc kwq _ _) ⟨_, 0, none⟩ 1 1 [.int .i64 xk, .int .i64 xa, .int .i64 xb, .int .i64 xr] rfl rfl (cells_four_new _ _ _ _ _ _) (by intro u hu; simp at hu; rcases hu with rfl | rfl | rfl | rfl <;> rfl) (by decide) (by unfold maxLen; omega) (by omega) ?_)
          intro v3 w4 own3 k4 g3 z3 o3
          have OFF3 := Lib.hid (show some g0 ≠ v3.ownBlock from off_own OFF.out gz o3)
          have MD3 := Lib.hid ((MD2.out.kept ((Kept.refl _).alloc _ _)).grown g3 OFF.out z3)
          have OV3 := Lib.hid (show w4.ownsRow g0 23 4 v3 (aV R (k + 1)).length ((aV R (k + 1)).flatMap evs) from by rw [NV2.out, List.length_append, flat_one]; exact own3)
          clear g3 z3 o3 own3 c0 c1 c2 c3 kwq k3 OV2 MD2
          obtain ⟨⟨u, hu⟩, hfz⟩ := MD3.out.1 k hlt
          go_wp2
          go_roundw
          case rel => exact ⟨k + 1, by omega, by go_num, by rw [NV2.out, tm_add], own_set (OV3.out) _ (by exact OFF3.out), OFF3.out, (by have := MD3.out.put 0 (by rw [HL.out]; exact hlt); rw [HL.out] at this; rw [NB2.out]; exact this), (by (repeat (first | with_reducible exact Kept.refl _ | with_reducible apply Kept.drew | with_reducible apply Kept.alloc | ((with_reducible apply Kept.set); focus (simp <;> omega)) | ((with_reducible apply Kept.via); focus with_reducible assumption))))⟩
          case measure => simp [intOf]; omega
      · have d0 : (er == 0) = false := by simp [h0]
        have NV2 := Lib.hid (show aV R (k + 1) = lv from by rw [NV.out, if_neg (by rw [SE.out, if_neg (fun z => h0 z.1)]; exact h0)])
        have NB2 := Lib.hid (show aB R (k + 1) = lb ++ [er] from by rw [NB.out, SE.out, if_neg (fun z => h0 z.1)])
        obtain ⟨⟨u, hu⟩, hfz⟩ := MD1.out.1 k hlt
        go_wp2
        go_roundw
        case rel => exact ⟨k + 1, by omega, by go_num, by rw [NV2.out, TM.out], own_set (by rw [NV2.out]; exact OV1.out) _ (by exact OFF.out), OFF.out, (by have := MD1.out.put er (by rw [HL.out]; exact hlt); rw [HL.out] at this; rw [NB2.out]; exact this), (by (repeat (first | with_reducible exact Kept.refl _ | with_reducible apply Kept.drew | with_reducible apply Kept.alloc | ((with_reducible apply Kept.set); focus (simp <;> omega)) | ((with_reducible apply Kept.via); focus with_reducible assumption))))⟩
        case measure => simp [intOf]; omega
    · obtain rfl : k = len := by omega
      have g2' : decide ((k : Int) < (k : Int)) = false := by simp
      have OVE := Lib.hid (show wr.ownsRow g0 23 4 _ n (l.flatMap evs) from by
            have h := OV.out
            rw [HA.out.1, HN.out] at h
            exact h)
      obtain ⟨B1, c1, rfl, s1, r1, n1⟩ := own_rowV HN.out OVE.out
      have r2 := MadeI.row MD.out
      rw [HA.out.2] at r2
      clear OV OVE MD OFF
      go_wp2
      go_ret2
      exact ⟨B1, c1, _, _, rfl, s1, ⟨Nat.le_refl _, by omega, fun h => by cases h⟩, r1, r2, fun a ha => by have := (n1 a ha).1; omega, fun a ha => by cases ha; show w.heap.size ≤ g0; omega, kw⟩
theorem vall_c : EvAllC := fun A len cap B C R n l bad _ hl _ ha hn w hr => vall hl ha hn w hr
end Go.Proofs.Ytbpdimogigcacaa
