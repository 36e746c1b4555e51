/-
  The document's Do: acts, one behind the other.
-/
import Derived.Test.YtbaifhgjalaphaaRef16
import Derived.Test.YtbaifhgjalaphaaOwnSet
import Derived.Deep.RegionHeld3
import Derived.Deep.DeepCutAuto
namespace Go.Proofs.Ytbaifhgjalaphaa
open Go.RowKit Go.BigFrame
set_option linter.unusedVariables false

theorem infoErr16 : (Try.prog.info? 29).map (fun i => (i.zero, i.size, i.bytes)) = some (some (.int .i64 0), 1, 8) := by kernel_rfl
set_option maxRecDepth 100000 in
set_option maxHeartbeats 6400000 in
theorem refDo16_ok (s t o : Int) (A : Option Addr) (len cap : Nat) (E : Nat → Nat → Int) (s' t' o' : Int) (l' : List Int) (hs : In64 s) (ht : In64 t) (ho : In64 o) (hn : len ≤ 1099511627776) (hz : ∀ i, i < len → ∀ j, j < 3 → In64 (E i j)) (hd : doF (s, t, o) (actsL E len) = (s', t', o')) (he : doE (s, t, o) (actsL E len) = l') (w : World) (hr : RowI .i64 w A 3 len E) : Calls Try.prog 11 #[.agg #[.int .i64 s, .int .i64 t, .int .i64 o], .slice A len cap] w fun e w' => ∃ (B : Option Addr) (c : Nat), e = .returned (.tuple #[.agg #[.int .i64 s', .int .i64 t', .int .i64 o'], .slice B len c]) ∧ SliceOk B len c ∧ RowE w' B l' ∧ (∀ a, B = some a → w.heap.size ≤ a.block) ∧ Kept w w' := by
  have HR := Lib.hid hr
  have HZ := Lib.hid hz
  have HD := Lib.hid (And.intro hd he)
  have I0 := Lib.hid (show FlIn (s, t, o) from ⟨hs, ht, ho⟩)
  clear hr hz hd he hs ht ho
  obtain ⟨i0, hi, hz0, hz1, hz2⟩ := info_parts infoErr16
  obtain ⟨f0, hf0⟩ : ∃ f0 : Fl, (s, t, o) = f0 := ⟨_, rfl⟩
  have HF := Lib.hid hf0
  go_enter Try.func11, Try.ntmps11
  go_upto_region 1 with fail
  generalize hW : World.alloc (World.alloc w (.cells #[.int .i64 s, .int .i64 t, .int .i64 o] 23)) (.cells #[.int .i64 0, .int .i64 0, .int .i64 0] 23) = W0
  have R0 := Lib.hid (show RF W0 w.heap.size s t o from by subst hW; exact ⟨⟨by simp [go_sem], by simp [go_sem], by simp [go_sem]⟩, by simp [go_sem], by simp [go_sem], by simp [go_sem]⟩)
  have Z0 := Lib.hid (show RF W0 (w.heap.size + 1) 0 0 0 from by subst hW; exact ⟨⟨by simp [go_sem], by simp [go_sem], by simp [go_sem]⟩, by simp [go_sem], by simp [go_sem], by simp [go_sem]⟩)
  have k0 : Kept w W0 := by subst hW; exact ((Kept.refl _).alloc _ _).alloc _ _
  clear hW
  obtain ⟨g, hg⟩ : ∃ g, w.heap.size = g := ⟨_, rfl⟩
  rw [hg] at R0 Z0 ⊢
  go_wp2
  go_loopw [6, 7] (fun ov iv wr => ∃ (k : Nat) (a b c : Int) (l : List Int) (BX : Option Addr) (cx : Nat), k ≤ len ∧ ov = .slice BX k cx ∧ iv = .int .i64 k ∧ doF f0 (actsL E k) = (a, b, c) ∧ doE f0 (actsL E k) = l ∧ RF wr g a b c ∧ RF wr (g + 1) 0 0 0 ∧ wr.ownsRow g 29 1 (.slice BX k cx) k (l.map (.int .i64)) ∧ some g ≠ Value.ownBlock (.slice BX k cx) ∧ some (g + 1) ≠ Value.ownBlock (.slice BX k cx) ∧ Kept w wr) (fun _ i _ => len - (intOf i).toNat)
  case atStart => exact ⟨0, s, t, o, [], none, 0, Nat.zero_le _, rfl, rfl, HF.out.symm, rfl, R0.out, Z0.out, World.ownsRow_nil _ _ _ _, off_nil _, off_nil _, k0⟩
  case round =>
    clear k0 R0 Z0 hf0
    obtain ⟨k, a, b, c, l, BX, cx, hk, rfl, rfl, hd1, hd2, hR, hZ2, hown, ho1, ho2, kw⟩ := hrel
    have D := Lib.hid (And.intro hd1 hd2)
    have RR := Lib.hid hR
    have ZZ := Lib.hid hZ2
    have OW := Lib.hid hown
    have O12 := Lib.hid (And.intro ho1 ho2)
    clear hd1 hd2 hR hZ2 hown ho1 ho2
    have gne := RR.out.ne
    have gne2 := ZZ.out.ne
    by_cases hlt : k < len
    · have hltI : (k : Int) < (len : Int) := by omega
      obtain ⟨bb, off, eA, hc⟩ := (HR.out.kept kw) (by omega)
      subst eA
      have x0 : wr.cell? ⟨bb, off + k * 3, none⟩ = some (.int .i64 (E k 0)) := hc k hlt 0 (by omega)
      have x1 : wr.cell? ⟨bb, off + k * 3 + 1, none⟩ = some (.int .i64 (E k 1)) := hc k hlt 1 (by omega)
      have x2 : wr.cell? ⟨bb, off + k * 3 + 2, none⟩ = some (.int .i64 (E k 2)) := hc k hlt 2 (by omega)
      have IX := Lib.hid (show FlIn (E k 0, E k 1, E k 2) from ⟨HZ.out k hlt 0 (by omega), HZ.out k hlt 1 (by omega), HZ.out k hlt 2 (by omega)⟩)
      have IF := Lib.hid (show FlIn (a, b, c) from by rw [← D.out.1]; exact do_in64 _ _ (by rw [← HF.out]; exact I0.out))
      have DN := Lib.hid (do_next f0 E k)
      obtain ⟨f', hf'⟩ : ∃ f' : Fl, actF (a, b, c) (E k 0, E k 1, E k 2) = f' := ⟨_, rfl⟩
      obtain ⟨er, her⟩ : ∃ er, actE (a, b, c) (E k 0, E k 1, E k 2) = er := ⟨_, rfl⟩
      have AI := act_is (a, b, c) (E k 0, E k 1, E k 2)
      rw [hf', her] at AI
      obtain ⟨a2, b2, c2⟩ := f'
      have DD := Lib.hid (show doF f0 (actsL E (k + 1)) = (a2, b2, c2) ∧ doE f0 (actsL E (k + 1)) = l ++ [er] from by rw [DN.out.1, DN.out.2, D.out.1, D.out.2, hf', her]; exact ⟨rfl, rfl⟩)
      have QA := Lib.hid (fun w_ => refAct16_ok IF.out IX.out AI w_)
      clear hc hf' her DN AI
      generalize E k 0 = x at *
      generalize E k 1 = y at *
      generalize E k 2 = z at *
      simp only [] at QA
      obtain ⟨b0, b1, b2_⟩ := RR.out.1
      go_upto_region 5 with fail
      have base := Lib.hid (show wr.cell? ⟨g, 0, none⟩ = some (.int .i64 a) ∧ wr.cell? ⟨g, 1, none⟩ = some (.int .i64 b) ∧ wr.cell? ⟨g, 2, none⟩ = some (.int .i64 c) ∧ wr.cell? ⟨bb, off + k * 3, none⟩ = some (.int .i64 x) ∧ wr.cell? ⟨bb, off + k * 3 + 1, none⟩ = some (.int .i64 y) ∧ wr.cell? ⟨bb, off + k * 3 + 2, none⟩ = some (.int .i64 z) from ⟨b0, b1, b2_, x0, x1, x2⟩)
      go_cut [8, 9] (fun s8 s9 wx => ∃ h : Nat, s8 = .pointer (some ⟨h, 0, none⟩) ∧ s9 = .int .i64 er ∧ RF wx h a2 b2 c2 ∧ wr.heap.size ≤ h ∧ Kept wr wx)
      case first =>
        go_region_held3 (fun w' => w'.cell? ⟨g, 0, none⟩ = some (.int .i64 a) ∧ w'.cell? ⟨g, 1, none⟩ = some (.int .i64 b) ∧ w'.cell? ⟨g, 2, none⟩ = some (.int .i64 c) ∧ w'.cell? ⟨bb, off + k * 3, none⟩ = some (.int .i64 x) ∧ w'.cell? ⟨bb, off + k * 3 + 1, none⟩ = some (.int .i64 y) ∧ w'.cell? ⟨bb, off + k * 3 + 2, none⟩ = some (.int .i64 z))
          ((refine Kept.alln6 ?_ base; focus ((repeat (first | with_reducible exact Kept.refl _ | with_reducible apply Kept.drew | with_reducible apply Kept.alloc | ((with_reducible apply Kept.set); focus (simp <;> omega)) | ((with_reducible apply Kept.via); focus with_reducible assumption))); done)))
          (first | (go_at_call 24; refine (QA.out _).mono ?_; rintro e v1 ⟨rfl, i1⟩; (try (first | (with_reducible have nr := Room3.newD i1) | (with_reducible have nr := Room3.new i1) | (with_reducible have nr := Room3.kept nr i1))); have y1 := Kept.below i1; (try simp at y1); (try (obtain ⟨nx, ny, nz, na1, na2, na3, nb1, nb2, nb3⟩ := nr))))
        all_goals
          go_wp2_with fail
          go_meet
          exact ⟨_, rfl, rfl, ⟨⟨by simp [*, go_sem], by simp [*, go_sem], by simp [*, go_sem]⟩, by simp [*, go_sem], by simp [*, go_sem], by simp [*, go_sem]⟩, (by first | omega | (simp; omega)), (by (repeat (first | with_reducible exact Kept.refl _ | with_reducible apply Kept.drew | with_reducible apply Kept.alloc | ((with_reducible apply Kept.set); focus (simp <;> omega)) | ((with_reducible apply Kept.via); focus with_reducible assumption))))⟩
      obtain ⟨h, rfl, rfl, hx, hgx, K_x⟩ := hcut
      generalize wc = W_x at *
      have RX := Lib.hid hx
      have RR2 := Lib.hid (RR.out.kept K_x)
      have ZZ2 := Lib.hid (ZZ.out.kept K_x)
      have OW2 := Lib.hid (own_kept OW.out K_x)
      have kx := Kept.trans kw K_x
      have nn1 : ¬ h = g := by omega
      have nn2 : ¬ g = h := by omega
      have nn3 : ¬ g + 1 = g := by omega
      clear hx base b0 b1 b2_ x0 x1 x2 K_x RR ZZ OW kw
      obtain ⟨⟨c0, c1, c2_⟩, c3, c4, c5⟩ := RR2.out
      obtain ⟨⟨d0, d1, d2⟩, d3, d4, d5⟩ := RX.out
      obtain ⟨⟨e0, e1, e2⟩, e3, e4, e5⟩ := ZZ2.out
      go_upto_region 7 with fail
      generalize hW : World.setCell (World.setCell (World.setCell W_x ⟨g, 0, none⟩ (.int .i64 a2)) ⟨g, 1, none⟩ (.int .i64 b2)) ⟨g, 2, none⟩ (.int .i64 c2) = W_z
      have RZ := Lib.hid (show RF W_z g a2 b2 c2 from by subst hW; exact ⟨⟨by simp [*, go_sem], by simp [*, go_sem], by simp [*, go_sem]⟩, by simp [*, go_sem], by simp [*, go_sem], by simp [*, go_sem]⟩)
      have ZZ3 := Lib.hid (show RF W_z (g + 1) 0 0 0 from by subst hW; exact ⟨⟨by simp [*, go_sem], by simp [*, go_sem], by simp [*, go_sem]⟩, by simp [*, go_sem], by simp [*, go_sem], by simp [*, go_sem]⟩)
      have OW3 := Lib.hid (show W_z.ownsRow g 29 1 (.slice BX k cx) k (l.map (.int .i64)) from by subst hW; exact own_set (own_set (own_set OW2.out _ O12.out.1) _ O12.out.1) _ O12.out.1)
      have kz : Kept w W_z := by subst hW; exact (by (repeat (first | with_reducible exact Kept.refl _ | with_reducible apply Kept.drew | with_reducible apply Kept.alloc | ((with_reducible apply Kept.set); focus (simp <;> omega)) | ((with_reducible apply Kept.via); focus with_reducible assumption))))
      clear hW c0 c1 c2_ c3 c4 c5 d0 d1 d2 d3 d4 d5 e0 e1 e2 e3 e4 e5 RX RR2 ZZ2 OW2 kx
      go_wp2_with (at_builtin; refine wpList_append_kept rfl _ _ 26 rfl w g hg 29 i0 (.int .i64 0) 1 8 Try.underlying26 hi hz0 hz1 hz2 rfl (by decide) _ _ _ rfl (World.ownsRow.alloc (OW3.out) _) (Kept.alloc (kz) _ _) ⟨_, 0, none⟩ 1 1 [.int .i64 er] rfl rfl (cells_one_new _ _ _) (by intro u hu; simp at hu; rcases hu with rfl; rfl) (by decide) (by unfold maxLen; omega) (by omega) ?_)
      intro v' w3 own3 k3 g3 z3 o3
      have hq : (l ++ [er]).length = k + 1 := by have := congrArg List.length D.out.2; rw [doE_len, actsL_len] at this; rw [List.length_append, ← this]; rfl
      have own4 : w3.ownsRow g 29 1 v' (k + 1) ((l ++ [er]).map (.int .i64)) := by rw [List.map_append]; exact own3
      obtain ⟨BY, cy, rfl, sok, rowk, _⟩ := own_rowK hq own4
      have al := (Kept.refl W_z).alloc #[.int .i64 er] 29
      have sz : (World.alloc W_z (.cells #[.int .i64 er] 29)).heap.size = W_z.heap.size + 1 := by simp
      have zg := RZ.out.ne
      have zg2 := ZZ3.out.ne
      have RZ4 := Lib.hid ((RZ.out.kept al).grown g3 z3 O12.out.1)
      have ZZ4 := Lib.hid ((ZZ3.out.kept al).grown g3 z3 O12.out.2)
      have o4 := o3
      rw [← sz] at o4
      have o1 := off_next O12.out.1 (by omega) o4
      have o2 := off_next O12.out.2 (by omega) o4
      have OW4 := Lib.hid own4
      have OO := Lib.hid (And.intro o1 o2)
      clear own3 own4 g3 z3 o3 o4 RZ ZZ3 OW3 o1 o2 sok rowk al sz
      go_wp2
      go_roundw
      case rel => exact ⟨k + 1, a2, b2, c2, l ++ [er], BY, cy, by omega, rfl, by go_num, DD.out.1, DD.out.2, RZ4.out, ZZ4.out, OW4.out, OO.out.1, OO.out.2, k3⟩
      case measure => simp [intOf]; omega
    · obtain rfl : k = len := by omega
      have g2' : decide ((k : Int) < (k : Int)) = false := by simp
      obtain ⟨q1, q2⟩ : (a, b, c) = (s', t', o') ∧ l = l' := by have h1 := HD.out; rw [HF.out, D.out.1, D.out.2] at h1; exact h1
      simp only [Prod.mk.injEq] at q1
      obtain ⟨rfl, rfl, rfl⟩ := q1
      subst q2
      have hq : l.length = k := by have := congrArg List.length D.out.2; rw [doE_len, actsL_len] at this; exact this.symm
      obtain ⟨B2, c9, eq, sok, rowk, _⟩ := own_rowK hq OW.out
      cases eq
      have ROWK := Lib.hid (And.intro sok (RowK.kept rowk (Kept.refl _)))
      clear sok rowk
      have nn3 : ¬ g + 1 = g := by omega
      have nn4 : ¬ g = g + 1 := by omega
      have gw1 : w.heap.size ≤ g := by omega
      have gw2 : w.heap.size ≤ g + 1 := by omega
      obtain ⟨⟨c0, c1, c2_⟩, c3, c4, c5⟩ := RR.out
      obtain ⟨⟨e0, e1, e2⟩, e3, e4, e5⟩ := ZZ.out
      go_wp2
      generalize hW : World.setCell (World.setCell (World.setCell wr ⟨g + 1, 0, none⟩ (.int .i64 a)) ⟨g + 1, 1, none⟩ (.int .i64 b)) ⟨g + 1, 2, none⟩ (.int .i64 c) = W_z
      have RZ := Lib.hid (show RF W_z (g + 1) a b c from by subst hW; exact ⟨⟨by simp [*, go_sem], by simp [*, go_sem], by simp [*, go_sem]⟩, by simp [*, go_sem], by simp [*, go_sem], by simp [*, go_sem]⟩)
      have OW5 := own_rowK hq (show W_z.ownsRow g 29 1 (.slice BX k cx) k (l.map (.int .i64)) from by subst hW; exact own_set (own_set (own_set OW.out _ O12.out.2) _ O12.out.2) _ O12.out.2)
      have kz : Kept w W_z := by subst hW; exact (by (repeat (first | with_reducible exact Kept.refl _ | with_reducible apply Kept.drew | with_reducible apply Kept.alloc | ((with_reducible apply Kept.set); focus (simp <;> omega)) | ((with_reducible apply Kept.via); focus with_reducible assumption))))
      clear hW
      obtain ⟨B3, c10, eq3, sok3, rowk3, nw3⟩ := OW5
      cases eq3
      obtain ⟨⟨z0, z1, z2⟩, z3, z4, z5⟩ := RZ.out
      simp [bodyPost, results, Try.results11, go_sem, *]
      exact ⟨_, _, ⟨rfl, rfl⟩, sok3, rowk3, fun a z => (nw3 a z).1⟩
end Go.Proofs.Ytbaifhgjalaphaa
