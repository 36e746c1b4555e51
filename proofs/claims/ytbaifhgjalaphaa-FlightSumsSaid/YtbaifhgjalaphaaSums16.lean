/-
  The walk of FlightSums: it answers true, if the calls do what they are to do.
-/
import Derived.Test.YtbaifhgjalaphaaAwake16
import Derived.Test.YtbaifhgjalaphaaTail
import Derived.Deep.RegionHeld3
import Derived.Deep.DeepCutAuto
namespace Go.Proofs.Ytbaifhgjalaphaa
open Go.RowKit Go.BigFrame
set_option linter.unusedVariables false

set_option maxRecDepth 100000 in
set_option maxHeartbeats 1600000 in
theorem sums16_long (CC : FlCheckC) (SC : FlSendC) (AC : FlAckC) (LC : FlLoseC) (RC_ : FlRoomC) (DC : FlDoC) {A : Option Addr} {len cap : Nat} (hl : 100 < len) (hm : len ≤ 9223372036854775807) (w : World) : Calls Try.prog 4 #[.slice A len cap] w fun e w' => e = .returned (.bool true) ∧ Kept w w' := by
  have CC' := Lib.hid CC
  have SC' := Lib.hid SC
  have AC' := Lib.hid AC
  have LC' := Lib.hid LC
  have RC_' := Lib.hid RC_
  have DC' := Lib.hid DC
  have AW' := Lib.hid (fun w => awake16 CC SC AC LC RC_ DC w)
  clear CC SC AC LC RC_ DC
  have hd : decide ((100 : Int) < (len : Int)) = true := by simp; omega
  go_enter Try.func4, Try.ntmps4
  go_wp2_with fail
  refine (AW'.out _).mono ?_
  rintro e w20 ⟨rfl, k20⟩
  go_wp2
  go_ret
  exact ⟨rfl, (by (repeat (first | with_reducible exact Kept.refl _ | with_reducible apply Kept.drew | with_reducible apply Kept.alloc | ((with_reducible apply Kept.set); focus (simp <;> omega)) | ((with_reducible apply Kept.via); focus with_reducible assumption))))⟩
theorem act_stay {f f' : Fl} {x : Ac} {er : Int} (h : ActIs f x f' er) (z : ¬ er = 0) : f' = f := by
  have key : ∀ {a b : Fl}, (a.1 = b.1 ∧ a.2.1 = b.2.1 ∧ a.2.2 = b.2.2) → a = b := fun ⟨x, y, u⟩ => Prod.ext x (Prod.ext y u)
  rcases h with ⟨_, h⟩ | ⟨_, h⟩ | ⟨_, h⟩ | ⟨_, h, _⟩
  · rcases h with ⟨_, a, b, c, _⟩ | ⟨_, _, _, a, b, c, _⟩ | ⟨_, _, _, _, a, b, c, _⟩ | ⟨_, _, _, _, _, _, _, y⟩
    · exact key ⟨a, b, c⟩
    · exact key ⟨a, b, c⟩
    · exact key ⟨a, b, c⟩
    · exact absurd y z
  · rcases h with ⟨_, a, b, c, _⟩ | ⟨_, _, _, a, b, c, _⟩ | ⟨_, _, _, _, _, _, y⟩
    · exact key ⟨a, b, c⟩
    · exact key ⟨a, b, c⟩
    · exact absurd y z
  · rcases h with ⟨_, a, b, c, _⟩ | ⟨_, _, _, a, b, c, _⟩ | ⟨_, _, _, _, _, _, y⟩
    · exact key ⟨a, b, c⟩
    · exact key ⟨a, b, c⟩
    · exact absurd y z
  · exact h
theorem act_done {n0 n1 o x0 x1 x2 : Int} {f' : Fl} (h : ActIs (n0, n1, o) (x0, x1, x2) f' 0) : 1 ≤ x1 ∧ ((x0 = 0 ∧ f' = (n0 + x1, n1, o + x1) ∧ True) ∨ (x0 = 1 ∧ f' = (n0, n1 + x1, o - x1) ∧ x1 ≤ o) ∨ (x0 = 2 ∧ f' = (n0, n1, o - x1) ∧ x1 ≤ o)) := by
  obtain ⟨a, b, c⟩ := f'
  rcases h with ⟨h0, h⟩ | ⟨h0, h⟩ | ⟨h0, h⟩ | ⟨_, _, h⟩
  · rcases h with ⟨_, _, _, _, y⟩ | ⟨_, _, _, _, _, _, y⟩ | ⟨_, _, _, _, _, _, _, y⟩ | ⟨_, n, _, _, e1, e2, e3, _⟩
    · cases y
    · cases y
    · cases y
    · simp only [] at *; exact ⟨n, Or.inl ⟨h0, by rw [e1, e2, e3], trivial⟩⟩
  · rcases h with ⟨_, _, _, _, y⟩ | ⟨_, _, _, _, _, _, y⟩ | ⟨_, n, l, e1, e2, e3, _⟩
    · cases y
    · cases y
    · simp only [] at *; exact ⟨n, Or.inr (Or.inl ⟨h0, by rw [e1, e2, e3], l⟩)⟩
  · rcases h with ⟨_, _, _, _, y⟩ | ⟨_, _, _, _, _, _, y⟩ | ⟨_, n, l, e1, e2, e3, _⟩
    · cases y
    · cases y
    · simp only [] at *; exact ⟨n, Or.inr (Or.inr ⟨h0, by rw [e1, e2, e3, Int.add_zero], l⟩)⟩
  · cases h
set_option maxRecDepth 100000 in
set_option maxHeartbeats 6400000 in
theorem sums16_short (CC : FlCheckC) (SC : FlSendC) (AC : FlAckC) (LC : FlLoseC) (RC_ : FlRoomC) (DC : FlDoC) {A : Option Addr} {len cap : Nat} {E : Nat → Nat → Int} (hl : len ≤ 100) (hz : ∀ i, i < len → ∀ j, j < 3 → -2147483648 ≤ E i j ∧ E i j ≤ 2147483647) (w : World) (hr : RowI .i32 w A 3 len E) : Calls Try.prog 4 #[.slice A len cap] w fun e w' => e = .returned (.bool true) ∧ Kept w w' := by
  have CC' := Lib.hid CC
  have SC' := Lib.hid SC
  have AC' := Lib.hid AC
  have LC' := Lib.hid LC
  have RC_' := Lib.hid RC_
  have DC' := Lib.hid DC
  have AW' := Lib.hid (fun w => awake16 CC SC AC LC RC_ DC w)
  clear CC SC AC LC RC_ DC
  have hd : decide ((100 : Int) < (len : Int)) = false := by simp; omega
  have HR := Lib.hid hr
  have HZ := Lib.hid hz
  clear hr hz
  go_enter Try.func4, Try.ntmps4
  go_wp2_with fail
  refine (AW'.out _).mono ?_
  rintro e w1 ⟨rfl, k1⟩
  go_upto_region 6 with fail
  generalize hW : World.alloc (World.alloc w1 (.cells #[.int .i64 0, .int .i64 0, .int .i64 0] 23)) (.cells #[.int .i64 0, .int .i64 0, .int .i64 0] 38) = W0
  have F0 := Lib.hid (show RF W0 w1.heap.size 0 0 0 from by subst hW; exact ⟨⟨by simp [go_sem], by simp [go_sem], by simp [go_sem]⟩, by simp [go_sem], by simp [go_sem], by simp [go_sem]⟩)
  have N0 := Lib.hid (show RF W0 (w1.heap.size + 1) 0 0 0 from by subst hW; exact ⟨⟨by simp [go_sem], by simp [go_sem], by simp [go_sem]⟩, by simp [go_sem], by simp [go_sem], by simp [go_sem]⟩)
  have k0 : Kept w W0 := by subst hW; exact ((k1.alloc _ _)).alloc _ _
  have gw := Kept.below k1
  clear hW k1
  obtain ⟨gf, hgf⟩ : ∃ gf, w1.heap.size = gf := ⟨_, rfl⟩
  rw [hgf] at F0 N0 gw ⊢
  obtain ⟨gn, hgn⟩ : ∃ gn, gf + 1 = gn := ⟨_, rfl⟩
  rw [hgn] at N0 ⊢
  clear hgf
  have nf1 : ¬ gn = gf := by omega
  have nf2 : ¬ gf = gn := by omega
  skip
  go_wp2
  go_loopw [6] (fun iv wr => ∃ (k : Nat) (n0 n1 n2 o : Int), k ≤ len ∧ iv = .int .i64 k ∧ RF wr gf n0 n1 o ∧ RF wr gn n0 n1 n2 ∧ MayF n0 n1 o ∧ n0 - n1 - n2 = o ∧ 0 ≤ n2 ∧ n0 ≤ (k : Int) * 2147483647 ∧ Kept w wr) (fun i _ => len - (intOf i).toNat)
  case atStart => exact ⟨0, 0, 0, 0, 0, Nat.zero_le _, rfl, F0.out, N0.out, by decide, by decide, by decide, by decide, k0⟩
  case round =>
    clear hd k0 F0 N0
    obtain ⟨k, n0, n1, n2, o, hk, rfl, hF, hN, m, eo, n20, nb, kw⟩ := hrel
    have RFf := Lib.hid hF
    have RFn := Lib.hid hN
    have MM := Lib.hid m
    have m0 : 0 ≤ n0 := m.1
    have m1 : 0 ≤ n1 := m.2.1
    have m2 : 0 ≤ o := m.2.2.1
    have EO := Lib.hid eo
    clear hF hN m
    have gfe := RFf.out.ne
    have gne := RFn.out.ne
    by_cases hlt : k < len
    · have hltI : (k : Int) < (len : Int) := by omega
      obtain ⟨bb, off, eA, hc⟩ := (HR.out.kept kw) (by omega)
      subst eA
      have x0_ : wr.cell? ⟨bb, off + k * 3, none⟩ = some (.int .i32 (E k 0)) := hc k hlt 0 (by omega)
      have x1_ : wr.cell? ⟨bb, off + k * 3 + 1, none⟩ = some (.int .i32 (E k 1)) := hc k hlt 1 (by omega)
      have x2_ : wr.cell? ⟨bb, off + k * 3 + 2, none⟩ = some (.int .i32 (E k 2)) := hc k hlt 2 (by omega)
      have IX := Lib.hid (And.intro (HZ.out k hlt 0 (by omega)) (And.intro (HZ.out k hlt 1 (by omega)) (HZ.out k hlt 2 (by omega))))
      clear hc
      generalize E k 0 = x0 at *
      generalize E k 1 = x1 at *
      generalize E k 2 = x2 at *
      have b0 : -2147483648 ≤ x0 ∧ x0 ≤ 2147483647 := IX.out.1
      have b1 : -2147483648 ≤ x1 ∧ x1 ≤ 2147483647 := IX.out.2.1
      have b2 : -2147483648 ≤ x2 ∧ x2 ≤ 2147483647 := IX.out.2.2
      have ew0 : IntKind.i64.wrap x0 = x0 := by rw [IntKind.wrap_i64]; omega
      have ew1 : IntKind.i64.wrap x1 = x1 := by rw [IntKind.wrap_i64]; omega
      have ew2 : IntKind.i64.wrap x2 = x2 := by rw [IntKind.wrap_i64]; omega
      have kI : (k : Int) ≤ 100 := by omega
      obtain ⟨f', er, hai⟩ := act_ex (n0, n1, o) (x0, x1, x2)
      obtain ⟨a2, b2', c2⟩ := f'
      have AI := Lib.hid hai
      have HD := Lib.hid (show doF (n0, n1, o) (actsL (fun (_ : Nat) (j : Nat) => if j = 0 then x0 else if j = 1 then x1 else x2) 1) = (a2, b2', c2) ∧ doE (n0, n1, o) (actsL (fun (_ : Nat) (j : Nat) => if j = 0 then x0 else if j = 1 then x1 else x2) 1) = [er] from by have q := act_one (act_is (n0, n1, o) (x0, x1, x2)) hai; show actF (n0, n1, o) (x0, x1, x2) = _ ∧ [actE (n0, n1, o) (x0, x1, x2)] = _; rw [q.1, q.2]; exact ⟨rfl, rfl⟩)
      have IF := Lib.hid (show FlIn (n0, n1, o) from ⟨(show In64 n0 from by unfold In64; omega), (show In64 n1 from by have h9 : n1 + o ≤ n0 := MM.out.2.2.2; unfold In64; omega), (show In64 o from by have h9 : n1 + o ≤ n0 := MM.out.2.2.2; unfold In64; omega)⟩)
      have IE := Lib.hid (show ∀ i, i < 1 → ∀ j, j < 3 → In64 ((fun (_ : Nat) (j : Nat) => if j = 0 then x0 else if j = 1 then x1 else x2) i j) from fun i _ j hj => by rcases (show j = 0 ∨ j = 1 ∨ j = 2 by omega) with rfl | rfl | rfl <;> (simp; unfold In64; omega))
      clear hai
      go_upto_region 9 with fail
      have base := Lib.hid (show wr.cell? ⟨bb, off + k * 3, none⟩ = some (.int .i32 x0) ∧ wr.cell? ⟨bb, off + k * 3 + 1, none⟩ = some (.int .i32 x1) ∧ wr.cell? ⟨bb, off + k * 3 + 2, none⟩ = some (.int .i32 x2) from ⟨x0_, x1_, x2_⟩)
      go_cut [7] (fun s7 wx => ∃ h : Nat, s7 = .pointer (some ⟨h, 0, none⟩) ∧ RF wx h x0 x1 x2 ∧ wr.heap.size ≤ h ∧ Kept wr wx)
      case first =>
        go_region_held3 (fun w' => w'.cell? ⟨bb, off + k * 3, none⟩ = some (.int .i32 x0) ∧ w'.cell? ⟨bb, off + k * 3 + 1, none⟩ = some (.int .i32 x1) ∧ w'.cell? ⟨bb, off + k * 3 + 2, none⟩ = some (.int .i32 x2))
          ((refine Kept.all3 ?_ base; focus ((repeat (first | with_reducible exact Kept.refl _ | with_reducible apply Kept.drew | with_reducible apply Kept.alloc | ((with_reducible apply Kept.set); focus (simp <;> omega)) | ((with_reducible apply Kept.via); focus with_reducible assumption))); done)))
          (first | fail)
        all_goals
          go_wp2_with fail
          go_meet
          exact ⟨_, rfl, ⟨⟨by simp [*, go_sem], by simp [*, go_sem], by simp [*, go_sem]⟩, by simp [*, go_sem], by simp [*, go_sem], by simp [*, go_sem]⟩, (by first | omega | (simp; omega)), (by (repeat (first | with_reducible exact Kept.refl _ | with_reducible apply Kept.drew | with_reducible apply Kept.alloc | ((with_reducible apply Kept.set); focus (simp <;> omega)) | ((with_reducible apply Kept.via); focus with_reducible assumption))))⟩
      obtain ⟨gx, rfl, hx, hgx, K_x⟩ := hcut
      generalize wc = W_x at *
      have RX := Lib.hid hx
      have RF2 := Lib.hid (RFf.out.kept K_x)
      have RN2 := Lib.hid (RFn.out.kept K_x)
      have kx := Kept.trans kw K_x
      have nx1 : ¬ gx = gf := by omega
      have nx2 : ¬ gf = gx := by omega
      have nx3 : ¬ gx = gn := by omega
      have nx4 : ¬ gn = gx := by omega
      have gxe := RX.out.ne
      clear hx base x0_ x1_ x2_ K_x RFf RFn kw
      obtain ⟨c0, c1, c2_⟩ := RF2.out.1
      obtain ⟨d0, d1, d2⟩ := RX.out.1
      go_wp2_with fail
      refine (DC'.out n0 n1 o (some ⟨_, 0, none⟩) 1 1 (fun (_ : Nat) (j : Nat) => if j = 0 then x0 else if j = 1 then x1 else x2) a2 b2' c2 [er] IF.out.1 IF.out.2.1 IF.out.2.2 ⟨by omega, by omega, fun h => by cases h⟩ (by omega) IE.out HD.out.1 HD.out.2 _ ?_).mono ?_
      · intro _
        refine ⟨_, 0, rfl, fun i hi j hj => ?_⟩
        obtain rfl : i = 0 := by omega
        rcases (show j = 0 ∨ j = 1 ∨ j = 2 by omega) with rfl | rfl | rfl <;> (first | (simp [go_sem]; done) | (simp [go_sem]; rfl))
      rintro e w2 ⟨B4, c4, rfl, sk4, rl4, nw4, k2⟩
      obtain ⟨b4, off4, eB, hc4⟩ := rl4 (by simp)
      subst eB
      have er_ : w2.cell? ⟨b4, off4, none⟩ = some (.int .i64 er) := hc4 0 (by simp)
      have ERC := Lib.hid er_
      clear c0 c1 c2_ d0 d1 d2 hc4 sk4 rl4 nw4 er_
      have RF3 := Lib.hid (RF2.out.kept (show Kept W_x w2 from (by (repeat (first | with_reducible exact Kept.refl _ | with_reducible apply Kept.drew | with_reducible apply Kept.alloc | ((with_reducible apply Kept.set); focus (simp <;> omega)) | ((with_reducible apply Kept.via); focus with_reducible assumption))))))
      have RN3 := Lib.hid (RN2.out.kept (show Kept W_x w2 from (by (repeat (first | with_reducible exact Kept.refl _ | with_reducible apply Kept.drew | with_reducible apply Kept.alloc | ((with_reducible apply Kept.set); focus (simp <;> omega)) | ((with_reducible apply Kept.via); focus with_reducible assumption))))))
      have RX3 := Lib.hid (RX.out.kept (show Kept W_x w2 from (by (repeat (first | with_reducible exact Kept.refl _ | with_reducible apply Kept.drew | with_reducible apply Kept.alloc | ((with_reducible apply Kept.set); focus (simp <;> omega)) | ((with_reducible apply Kept.via); focus with_reducible assumption))))))
      have kwn2 : Kept w w2 := (by (repeat (first | with_reducible exact Kept.refl _ | with_reducible apply Kept.drew | with_reducible apply Kept.alloc | ((with_reducible apply Kept.set); focus (simp <;> omega)) | ((with_reducible apply Kept.via); focus with_reducible assumption))))
      clear RF2 RN2 RX kx k2
      go_upto_region 11 with fail
      generalize hW : World.alloc w2 (.cells #[.int .i64 a2, .int .i64 b2', .int .i64 c2] 23) = W_g
      have kg : Kept w2 W_g := by subst hW; exact (Kept.refl _).alloc _ _
      have RG := Lib.hid (show RF W_g w2.heap.size a2 b2' c2 from by subst hW; exact ⟨⟨by simp [go_sem], by simp [go_sem], by simp [go_sem]⟩, by simp [go_sem], by simp [go_sem], by simp [go_sem]⟩)
      clear hW
      have z1 := RF3.out.ne
      have z2 := RN3.out.ne
      have z3 := RX3.out.ne
      generalize w2.heap.size = gg at *
      have RF4 := Lib.hid (RF3.out.kept kg)
      have RN4 := Lib.hid (RN3.out.kept kg)
      have RX4 := Lib.hid (RX3.out.kept kg)
      have er_ := kg.read ERC.out
      have kwg := Kept.trans kwn2 kg
      clear RF3 RN3 RX3 kg kwn2 ERC
      have ng1 : ¬ gg = gf := by omega
      have ng2 : ¬ gf = gg := by omega
      have ng3 : ¬ gg = gn := by omega
      have ng4 : ¬ gn = gg := by omega
      obtain ⟨⟨c0, c1, c2_⟩, c3, c4_, c5⟩ := RF4.out
      obtain ⟨⟨d0, d1, d2⟩, d3, d4, d5⟩ := RX4.out
      obtain ⟨⟨e0, e1, e2⟩, e3, e4, e5⟩ := RN4.out
      obtain ⟨⟨f0, f1, f2⟩, f3, f4, f5⟩ := RG.out
      have gef := RF4.out.ne
      have gen := RN4.out.ne
      have geg := RG.out.ne
      have gex := RX4.out.ne
      skip
      by_cases z : er = 0
      · subst z
        obtain ⟨hx1, hcase⟩ := act_done AI.out
        have x10 : 1 ≤ x1 := hx1
        rcases hcase with ⟨h0, q, u⟩ | ⟨h0, q, u⟩ | ⟨h0, q, u⟩
        · subst h0
          simp only [Prod.mk.injEq] at q
          obtain ⟨qa, qb, qc⟩ := q
          have qa' := qa.symm
          have qb' := qb.symm
          have qc' := qc.symm
          clear qa qb qc
          subst qa' qb' qc'
          have may2 : MayF (n0 + x1) (n1) (o + x1) := by have := MM.out; unfold MayF at *; omega
          have ews : IntKind.i64.wrap (n0 + x1) = n0 + x1 := by rw [IntKind.wrap_i64]; omega
          go_upto_region 16 with fail
          have B_f := Lib.hid (show W_g.cell? ⟨gx, 0, none⟩ = some (.int .i64 0) ∧ W_g.cell? ⟨gx, 1, none⟩ = some (.int .i64 x1) ∧ W_g.cell? ⟨gn, 0, none⟩ = some (.int .i64 n0) from ⟨d0, d1, e0⟩)
          clear c0 c1 c2_ c3 c4_ c5 d0 d1 d2 d3 d4 d5 e0 e1 e2 e3 e4 e5 f0 f1 f2 f3 f4 f5 er_
          obtain ⟨q_0, q_1, q_2⟩ := kw3 B_f
          refine wp_region_kept_tail 10 (by kernel_rfl) (by kernel_rfl) ?_
          simp only [List.take_succ_cons, List.take_zero, List.drop_succ_cons, List.drop_zero]
          repeat (go_big_quiet_step (first | fail))
          refine wpQuiet_nil ?_
          intro wq hw'
          have kq : Kept W_g wq := by obtain ⟨p, rfl⟩ := hw'; exact p.k
          clear hw' q_0 q_1 q_2 B_f
          have RF5 := Lib.hid (RF4.out.kept kq)
          have RN5 := Lib.hid (RN4.out.kept kq)
          have RG5 := Lib.hid (RG.out.kept kq)
          have kwn4 := Kept.trans kwg kq
          have gef5 := RF5.out.ne
          have gen5 := RN5.out.ne
          have geg5 := RG5.out.ne
          clear RF4 RN4 RX4 RG kwg kq
          obtain ⟨⟨c0, c1, c2_⟩, c3, c4_, c5⟩ := RF5.out
          obtain ⟨⟨e0, e1, e2⟩, e3, e4, e5⟩ := RN5.out
          obtain ⟨⟨f0, f1, f2⟩, f3, f4, f5⟩ := RG5.out
          go_upto_region 17 with fail
          generalize hW : World.setCell wq ⟨gn, 0, none⟩ (.int .i64 (n0 + x1)) = W_t
          have RF6 := Lib.hid (show RF W_t gf n0 n1 o from by subst hW; exact ⟨⟨by simp [*, go_sem], by simp [*, go_sem], by simp [*, go_sem]⟩, by simp [*, go_sem], by simp [*, go_sem], by simp [*, go_sem]⟩)
          have RN6 := Lib.hid (show RF W_t gn (n0 + x1) (n1) (n2) from by subst hW; exact ⟨⟨by simp [*, go_sem], by simp [*, go_sem], by simp [*, go_sem]⟩, by simp [*, go_sem], by simp [*, go_sem], by simp [*, go_sem]⟩)
          have RG6 := Lib.hid (show RF W_t gg (n0 + x1) (n1) (o + x1) from by subst hW; exact ⟨⟨by simp [*, go_sem], by simp [*, go_sem], by simp [*, go_sem]⟩, by simp [*, go_sem], by simp [*, go_sem], by simp [*, go_sem]⟩)
          have kwn5 : Kept w W_t := by subst hW; exact (by (repeat (first | with_reducible exact Kept.refl _ | with_reducible apply Kept.drew | with_reducible apply Kept.alloc | ((with_reducible apply Kept.set); focus (simp <;> omega)) | ((with_reducible apply Kept.via); focus with_reducible assumption))))
          clear hW c0 c1 c2_ c3 c4_ c5 e0 e1 e2 e3 e4 e5 f0 f1 f2 f3 f4 f5 RF5 RN5 RG5 kwn4
          have gef6 := RF6.out.ne
          have gen6 := RN6.out.ne
          have geg6 := RG6.out.ne
          obtain ⟨⟨c0, c1, c2_⟩, c3, c4_, c5⟩ := RF6.out
          obtain ⟨⟨e0, e1, e2⟩, e3, e4, e5⟩ := RN6.out
          obtain ⟨⟨f0, f1, f2⟩, f3, f4, f5⟩ := RG6.out
          go_upto_region 18 with fail
          generalize hW : World.setCell (World.setCell (World.setCell W_t ⟨gf, 0, none⟩ (.int .i64 (n0 + x1))) ⟨gf, 1, none⟩ (.int .i64 (n1))) ⟨gf, 2, none⟩ (.int .i64 (o + x1)) = W_z
          have RZ := Lib.hid (show RF W_z gf (n0 + x1) (n1) (o + x1) from by subst hW; exact ⟨⟨by simp [*, go_sem], by simp [*, go_sem], by simp [*, go_sem]⟩, by simp [*, go_sem], by simp [*, go_sem], by simp [*, go_sem]⟩)
          have RM := Lib.hid (show RF W_z gn (n0 + x1) (n1) (n2) from by subst hW; exact ⟨⟨by simp [*, go_sem], by simp [*, go_sem], by simp [*, go_sem]⟩, by simp [*, go_sem], by simp [*, go_sem], by simp [*, go_sem]⟩)
          have kz : Kept w W_z := by subst hW; exact (by (repeat (first | with_reducible exact Kept.refl _ | with_reducible apply Kept.drew | with_reducible apply Kept.alloc | ((with_reducible apply Kept.set); focus (simp <;> omega)) | ((with_reducible apply Kept.via); focus with_reducible assumption))))
          clear hW
          obtain ⟨p0, p1, p2⟩ := RZ.out.1
          go_wp2_with fail
          refine (CC'.out (n0 + x1) (n1) (o + x1) true (by unfold In64; omega) (by unfold In64; have := may2.2.2.2; have := may2.2.1; have := may2.2.2.1; omega) (by unfold In64; have := may2.2.2.2; have := may2.2.1; have := may2.2.2.1; omega) (by simp; exact may2) _).mono ?_
          rintro e w9 ⟨rfl, k9⟩
          clear p0 p1 p2
          have RZ9 := Lib.hid (RZ.out.kept k9)
          have RM9 := Lib.hid (RM.out.kept k9)
          have kz9 := Kept.trans kz k9
          clear RZ RM kz k9
          obtain ⟨p0, p1, p2⟩ := RZ9.out.1
          obtain ⟨q0, q1, q2⟩ := RM9.out.1
          have eo9 : n0 + x1 - (n1) - (n2) = o + x1 := by have := EO.out; omega
          go_wp2
          go_roundw
          case rel => exact ⟨k + 1, n0 + x1, n1, n2, o + x1, by omega, by go_num, RZ9.out, RM9.out, may2, by omega, by omega, by omega, kz9⟩
          case measure => simp [intOf]; omega
        · subst h0
          simp only [Prod.mk.injEq] at q
          obtain ⟨qa, qb, qc⟩ := q
          have qa' := qa.symm
          have qb' := qb.symm
          have qc' := qc.symm
          clear qa qb qc
          subst qa' qb' qc'
          have may2 : MayF (n0) (n1 + x1) (o - x1) := by have := MM.out; unfold MayF at *; omega
          have ews : IntKind.i64.wrap (n1 + x1) = n1 + x1 := by rw [IntKind.wrap_i64]; omega
          go_upto_region 16 with fail
          have B_f := Lib.hid (show W_g.cell? ⟨gx, 0, none⟩ = some (.int .i64 1) ∧ W_g.cell? ⟨gx, 1, none⟩ = some (.int .i64 x1) ∧ W_g.cell? ⟨gn, 1, none⟩ = some (.int .i64 n1) from ⟨d0, d1, e1⟩)
          clear c0 c1 c2_ c3 c4_ c5 d0 d1 d2 d3 d4 d5 e0 e1 e2 e3 e4 e5 f0 f1 f2 f3 f4 f5 er_
          obtain ⟨q_0, q_1, q_2⟩ := kw3 B_f
          refine wp_region_kept_tail 10 (by kernel_rfl) (by kernel_rfl) ?_
          simp only [List.take_succ_cons, List.take_zero, List.drop_succ_cons, List.drop_zero]
          repeat (go_big_quiet_step (first | fail))
          refine wpQuiet_nil ?_
          intro wq hw'
          have kq : Kept W_g wq := by obtain ⟨p, rfl⟩ := hw'; exact p.k
          clear hw' q_0 q_1 q_2 B_f
          have RF5 := Lib.hid (RF4.out.kept kq)
          have RN5 := Lib.hid (RN4.out.kept kq)
          have RG5 := Lib.hid (RG.out.kept kq)
          have kwn4 := Kept.trans kwg kq
          have gef5 := RF5.out.ne
          have gen5 := RN5.out.ne
          have geg5 := RG5.out.ne
          clear RF4 RN4 RX4 RG kwg kq
          obtain ⟨⟨c0, c1, c2_⟩, c3, c4_, c5⟩ := RF5.out
          obtain ⟨⟨e0, e1, e2⟩, e3, e4, e5⟩ := RN5.out
          obtain ⟨⟨f0, f1, f2⟩, f3, f4, f5⟩ := RG5.out
          go_upto_region 17 with fail
          generalize hW : World.setCell wq ⟨gn, 1, none⟩ (.int .i64 (n1 + x1)) = W_t
          have RF6 := Lib.hid (show RF W_t gf n0 n1 o from by subst hW; exact ⟨⟨by simp [*, go_sem], by simp [*, go_sem], by simp [*, go_sem]⟩, by simp [*, go_sem], by simp [*, go_sem], by simp [*, go_sem]⟩)
          have RN6 := Lib.hid (show RF W_t gn (n0) (n1 + x1) (n2) from by subst hW; exact ⟨⟨by simp [*, go_sem], by simp [*, go_sem], by simp [*, go_sem]⟩, by simp [*, go_sem], by simp [*, go_sem], by simp [*, go_sem]⟩)
          have RG6 := Lib.hid (show RF W_t gg (n0) (n1 + x1) (o - x1) from by subst hW; exact ⟨⟨by simp [*, go_sem], by simp [*, go_sem], by simp [*, go_sem]⟩, by simp [*, go_sem], by simp [*, go_sem], by simp [*, go_sem]⟩)
          have kwn5 : Kept w W_t := by subst hW; exact (by (repeat (first | with_reducible exact Kept.refl _ | with_reducible apply Kept.drew | with_reducible apply Kept.alloc | ((with_reducible apply Kept.set); focus (simp <;> omega)) | ((with_reducible apply Kept.via); focus with_reducible assumption))))
          clear hW c0 c1 c2_ c3 c4_ c5 e0 e1 e2 e3 e4 e5 f0 f1 f2 f3 f4 f5 RF5 RN5 RG5 kwn4
          have gef6 := RF6.out.ne
          have gen6 := RN6.out.ne
          have geg6 := RG6.out.ne
          obtain ⟨⟨c0, c1, c2_⟩, c3, c4_, c5⟩ := RF6.out
          obtain ⟨⟨e0, e1, e2⟩, e3, e4, e5⟩ := RN6.out
          obtain ⟨⟨f0, f1, f2⟩, f3, f4, f5⟩ := RG6.out
          go_upto_region 18 with fail
          generalize hW : World.setCell (World.setCell (World.setCell W_t ⟨gf, 0, none⟩ (.int .i64 (n0))) ⟨gf, 1, none⟩ (.int .i64 (n1 + x1))) ⟨gf, 2, none⟩ (.int .i64 (o - x1)) = W_z
          have RZ := Lib.hid (show RF W_z gf (n0) (n1 + x1) (o - x1) from by subst hW; exact ⟨⟨by simp [*, go_sem], by simp [*, go_sem], by simp [*, go_sem]⟩, by simp [*, go_sem], by simp [*, go_sem], by simp [*, go_sem]⟩)
          have RM := Lib.hid (show RF W_z gn (n0) (n1 + x1) (n2) from by subst hW; exact ⟨⟨by simp [*, go_sem], by simp [*, go_sem], by simp [*, go_sem]⟩, by simp [*, go_sem], by simp [*, go_sem], by simp [*, go_sem]⟩)
          have kz : Kept w W_z := by subst hW; exact (by (repeat (first | with_reducible exact Kept.refl _ | with_reducible apply Kept.drew | with_reducible apply Kept.alloc | ((with_reducible apply Kept.set); focus (simp <;> omega)) | ((with_reducible apply Kept.via); focus with_reducible assumption))))
          clear hW
          obtain ⟨p0, p1, p2⟩ := RZ.out.1
          go_wp2_with fail
          refine (CC'.out (n0) (n1 + x1) (o - x1) true (by unfold In64; omega) (by unfold In64; have := may2.2.2.2; have := may2.2.1; have := may2.2.2.1; omega) (by unfold In64; have := may2.2.2.2; have := may2.2.1; have := may2.2.2.1; omega) (by simp; exact may2) _).mono ?_
          rintro e w9 ⟨rfl, k9⟩
          clear p0 p1 p2
          have RZ9 := Lib.hid (RZ.out.kept k9)
          have RM9 := Lib.hid (RM.out.kept k9)
          have kz9 := Kept.trans kz k9
          clear RZ RM kz k9
          obtain ⟨p0, p1, p2⟩ := RZ9.out.1
          obtain ⟨q0, q1, q2⟩ := RM9.out.1
          have eo9 : n0 - (n1 + x1) - (n2) = o - x1 := by have := EO.out; omega
          go_wp2
          go_roundw
          case rel => exact ⟨k + 1, n0, n1 + x1, n2, o - x1, by omega, by go_num, RZ9.out, RM9.out, may2, by omega, by omega, by omega, kz9⟩
          case measure => simp [intOf]; omega
        · subst h0
          simp only [Prod.mk.injEq] at q
          obtain ⟨qa, qb, qc⟩ := q
          have qa' := qa.symm
          have qb' := qb.symm
          have qc' := qc.symm
          clear qa qb qc
          subst qa' qb' qc'
          have may2 : MayF (n0) (n1) (o - x1) := by have := MM.out; unfold MayF at *; omega
          have ews : IntKind.i64.wrap (n2 + x1) = n2 + x1 := by rw [IntKind.wrap_i64]; omega
          go_upto_region 16 with fail
          have B_f := Lib.hid (show W_g.cell? ⟨gx, 0, none⟩ = some (.int .i64 2) ∧ W_g.cell? ⟨gx, 1, none⟩ = some (.int .i64 x1) ∧ W_g.cell? ⟨gn, 2, none⟩ = some (.int .i64 n2) from ⟨d0, d1, e2⟩)
          clear c0 c1 c2_ c3 c4_ c5 d0 d1 d2 d3 d4 d5 e0 e1 e2 e3 e4 e5 f0 f1 f2 f3 f4 f5 er_
          obtain ⟨q_0, q_1, q_2⟩ := kw3 B_f
          refine wp_region_kept_tail 10 (by kernel_rfl) (by kernel_rfl) ?_
          simp only [List.take_succ_cons, List.take_zero, List.drop_succ_cons, List.drop_zero]
          repeat (go_big_quiet_step (first | fail))
          refine wpQuiet_nil ?_
          intro wq hw'
          have kq : Kept W_g wq := by obtain ⟨p, rfl⟩ := hw'; exact p.k
          clear hw' q_0 q_1 q_2 B_f
          have RF5 := Lib.hid (RF4.out.kept kq)
          have RN5 := Lib.hid (RN4.out.kept kq)
          have RG5 := Lib.hid (RG.out.kept kq)
          have kwn4 := Kept.trans kwg kq
          have gef5 := RF5.out.ne
          have gen5 := RN5.out.ne
          have geg5 := RG5.out.ne
          clear RF4 RN4 RX4 RG kwg kq
          obtain ⟨⟨c0, c1, c2_⟩, c3, c4_, c5⟩ := RF5.out
          obtain ⟨⟨e0, e1, e2⟩, e3, e4, e5⟩ := RN5.out
          obtain ⟨⟨f0, f1, f2⟩, f3, f4, f5⟩ := RG5.out
          go_upto_region 17 with fail
          generalize hW : World.setCell wq ⟨gn, 2, none⟩ (.int .i64 (n2 + x1)) = W_t
          have RF6 := Lib.hid (show RF W_t gf n0 n1 o from by subst hW; exact ⟨⟨by simp [*, go_sem], by simp [*, go_sem], by simp [*, go_sem]⟩, by simp [*, go_sem], by simp [*, go_sem], by simp [*, go_sem]⟩)
          have RN6 := Lib.hid (show RF W_t gn (n0) (n1) (n2 + x1) from by subst hW; exact ⟨⟨by simp [*, go_sem], by simp [*, go_sem], by simp [*, go_sem]⟩, by simp [*, go_sem], by simp [*, go_sem], by simp [*, go_sem]⟩)
          have RG6 := Lib.hid (show RF W_t gg (n0) (n1) (o - x1) from by subst hW; exact ⟨⟨by simp [*, go_sem], by simp [*, go_sem], by simp [*, go_sem]⟩, by simp [*, go_sem], by simp [*, go_sem], by simp [*, go_sem]⟩)
          have kwn5 : Kept w W_t := by subst hW; exact (by (repeat (first | with_reducible exact Kept.refl _ | with_reducible apply Kept.drew | with_reducible apply Kept.alloc | ((with_reducible apply Kept.set); focus (simp <;> omega)) | ((with_reducible apply Kept.via); focus with_reducible assumption))))
          clear hW c0 c1 c2_ c3 c4_ c5 e0 e1 e2 e3 e4 e5 f0 f1 f2 f3 f4 f5 RF5 RN5 RG5 kwn4
          have gef6 := RF6.out.ne
          have gen6 := RN6.out.ne
          have geg6 := RG6.out.ne
          obtain ⟨⟨c0, c1, c2_⟩, c3, c4_, c5⟩ := RF6.out
          obtain ⟨⟨e0, e1, e2⟩, e3, e4, e5⟩ := RN6.out
          obtain ⟨⟨f0, f1, f2⟩, f3, f4, f5⟩ := RG6.out
          go_upto_region 18 with fail
          generalize hW : World.setCell (World.setCell (World.setCell W_t ⟨gf, 0, none⟩ (.int .i64 (n0))) ⟨gf, 1, none⟩ (.int .i64 (n1))) ⟨gf, 2, none⟩ (.int .i64 (o - x1)) = W_z
          have RZ := Lib.hid (show RF W_z gf (n0) (n1) (o - x1) from by subst hW; exact ⟨⟨by simp [*, go_sem], by simp [*, go_sem], by simp [*, go_sem]⟩, by simp [*, go_sem], by simp [*, go_sem], by simp [*, go_sem]⟩)
          have RM := Lib.hid (show RF W_z gn (n0) (n1) (n2 + x1) from by subst hW; exact ⟨⟨by simp [*, go_sem], by simp [*, go_sem], by simp [*, go_sem]⟩, by simp [*, go_sem], by simp [*, go_sem], by simp [*, go_sem]⟩)
          have kz : Kept w W_z := by subst hW; exact (by (repeat (first | with_reducible exact Kept.refl _ | with_reducible apply Kept.drew | with_reducible apply Kept.alloc | ((with_reducible apply Kept.set); focus (simp <;> omega)) | ((with_reducible apply Kept.via); focus with_reducible assumption))))
          clear hW
          obtain ⟨p0, p1, p2⟩ := RZ.out.1
          go_wp2_with fail
          refine (CC'.out (n0) (n1) (o - x1) true (by unfold In64; omega) (by unfold In64; have := may2.2.2.2; have := may2.2.1; have := may2.2.2.1; omega) (by unfold In64; have := may2.2.2.2; have := may2.2.1; have := may2.2.2.1; omega) (by simp; exact may2) _).mono ?_
          rintro e w9 ⟨rfl, k9⟩
          clear p0 p1 p2
          have RZ9 := Lib.hid (RZ.out.kept k9)
          have RM9 := Lib.hid (RM.out.kept k9)
          have kz9 := Kept.trans kz k9
          clear RZ RM kz k9
          obtain ⟨p0, p1, p2⟩ := RZ9.out.1
          obtain ⟨q0, q1, q2⟩ := RM9.out.1
          have eo9 : n0 - (n1) - (n2 + x1) = o - x1 := by have := EO.out; omega
          go_wp2
          go_roundw
          case rel => exact ⟨k + 1, n0, n1, n2 + x1, o - x1, by omega, by go_num, RZ9.out, RM9.out, may2, by omega, by omega, by omega, kz9⟩
          case measure => simp [intOf]; omega
      · have q := act_stay AI.out z
        simp only [Prod.mk.injEq] at q
        obtain ⟨rfl, rfl, rfl⟩ := q
        have zb : (er == 0) = false := by simp [z]
        go_upto_region 18 with fail
        generalize hW : World.setCell (World.setCell (World.setCell W_g ⟨gf, 0, none⟩ (.int .i64 (a2))) ⟨gf, 1, none⟩ (.int .i64 (b2'))) ⟨gf, 2, none⟩ (.int .i64 (c2)) = W_z
        have RZ := Lib.hid (show RF W_z gf (a2) (b2') (c2) from by subst hW; exact ⟨⟨by simp [*, go_sem], by simp [*, go_sem], by simp [*, go_sem]⟩, by simp [*, go_sem], by simp [*, go_sem], by simp [*, go_sem]⟩)
        have RM := Lib.hid (show RF W_z gn (a2) (b2') (n2) from by subst hW; exact ⟨⟨by simp [*, go_sem], by simp [*, go_sem], by simp [*, go_sem]⟩, by simp [*, go_sem], by simp [*, go_sem], by simp [*, go_sem]⟩)
        have kz : Kept w W_z := by subst hW; exact (by (repeat (first | with_reducible exact Kept.refl _ | with_reducible apply Kept.drew | with_reducible apply Kept.alloc | ((with_reducible apply Kept.set); focus (simp <;> omega)) | ((with_reducible apply Kept.via); focus with_reducible assumption))))
        clear hW
        obtain ⟨p0, p1, p2⟩ := RZ.out.1
        go_wp2_with fail
        refine (CC'.out (a2) (b2') (c2) true IF.out.1 IF.out.2.1 IF.out.2.2 (by simp; exact MM.out) _).mono ?_
        rintro e w9 ⟨rfl, k9⟩
        clear p0 p1 p2
        have RZ9 := Lib.hid (RZ.out.kept k9)
        have RM9 := Lib.hid (RM.out.kept k9)
        have kz9 := Kept.trans kz k9
        clear RZ RM kz k9
        obtain ⟨p0, p1, p2⟩ := RZ9.out.1
        obtain ⟨q0, q1, q2⟩ := RM9.out.1
        have eo9 : a2 - b2' - n2 = c2 := EO.out
        go_wp2
        go_roundw
        case rel => exact ⟨k + 1, a2, b2', n2, c2, by omega, by go_num, RZ9.out, RM9.out, MM.out, by omega, by omega, by omega, kz9⟩
        case measure => simp [intOf]; omega
    · obtain rfl : k = len := by omega
      have g2' : decide ((k : Int) < (k : Int)) = false := by simp
      go_wp2
      go_ret
      exact ⟨rfl, kw⟩
theorem flightSums_walk (CC : FlCheckC) (SC : FlSendC) (AC : FlAckC) (LC : FlLoseC) (RC_ : FlRoomC) (DC : FlDoC) (A : Option Addr) (len cap : Nat) (E : Nat → Nat → Int) (w : World) (hS : SliceOk A len cap) (hz : ∀ i, i < len → ∀ j, j < 3 → -2147483648 ≤ E i j ∧ E i j ≤ 2147483647) (hr : RowI .i32 w A 3 len E) : Calls Try.prog 4 #[.slice A len cap] w fun e w' => e = .returned (.bool true) ∧ Kept w w' := by
  by_cases hl : len ≤ 100
  · exact sums16_short CC SC AC LC RC_ DC hl hz w hr
  · exact sums16_long CC SC AC LC RC_ DC (by omega) (by have := hS.1; have := hS.2.1; omega) w
end Go.Proofs.Ytbaifhgjalaphaa
