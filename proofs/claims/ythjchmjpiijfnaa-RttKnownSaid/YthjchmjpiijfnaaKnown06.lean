/-
  The walk of RttKnown: it answers true, whatever it is given.
-/
import Derived.Test.YthjchmjpiijfnaaRow06
import Derived.Deep.DeepCutAuto
namespace Go.Proofs.Ythjchmjpiijfnaa
open Go.RowKit Go.BigFrame
set_option linter.unusedVariables false

set_option maxRecDepth 100000 in
set_option maxHeartbeats 3200000 in
theorem all_ok {b : Bool} {m f : Int} (A : Option Addr) (len cap : Nat) (zs : List Int) (hm : len ≤ 9223372036854775807) (Inv : Nat → Bool → Int → Int → Prop) (I0 : Inv 0 b m f)
    (IS : ∀ k B M F, k < len → Inv k B M F → ∃ B' M' F' er, Inv (k + 1) B' M' F' ∧ ∀ w, Calls Try.prog 10 #[.agg #[.bool B, .int .i64 M, .int .i64 F], .int .i64 (zs.getD k 0)] w fun e w' => e = .returned (.tuple #[.agg #[.bool B', .int .i64 M', .int .i64 F'], .int .i64 er]) ∧ Kept w w') (w : World) (hr : RowAt w A len (fun j => .int .i64 (zs.getD j 0))) : Calls Try.prog 18 #[.agg #[.bool b, .int .i64 m, .int .i64 f], .slice A len cap] w fun e w' => ∃ B M F, Inv len B M F ∧ e = .returned (.agg #[.bool B, .int .i64 M, .int .i64 F]) ∧ Kept w w' := by
  have IS' := Lib.hid IS
  have HR := Lib.hid hr
  clear IS hr
  go_enter Try.func18, Try.ntmps18
  go_upto_region 1 with fail
  generalize hW : (World.alloc (World.alloc w (.cells #[.bool b, .int .i64 m, .int .i64 f] 23)) (.cells #[.bool false, .int .i64 0, .int .i64 0] 23)) = W0
  have R0 : RC W0 w.heap.size b m f := by subst hW; exact ⟨⟨by simp [go_sem], by simp [go_sem], by simp [go_sem]⟩, by simp [go_sem], by simp [go_sem], by simp [go_sem]⟩
  have room : Room3 W0 (w.heap.size + 1) := by subst hW; exact ⟨_, _, _, by first | (simp [go_sem]; done) | (simp [go_sem]; rfl), by first | (simp [go_sem]; done) | (simp [go_sem]; rfl), by first | (simp [go_sem]; done) | (simp [go_sem]; rfl), by simp [go_sem], by simp [go_sem], by simp [go_sem]⟩
  have k0 : Kept w W0 := by subst hW; exact (by (repeat (first | with_reducible exact Kept.refl _ | with_reducible apply Kept.drew | with_reducible apply Kept.alloc | ((with_reducible apply Kept.set); focus (simp <;> omega)) | ((with_reducible apply Kept.via); focus with_reducible assumption))))
  clear hW
  generalize hg : w.heap.size = g at *
  go_wp2
  go_loopw [5] (fun i wr => ∃ (k : Nat) (B : Bool) (M F : Int), k ≤ len ∧ i = .int .i64 k ∧ Inv k B M F ∧ RC wr g B M F ∧ Room3 wr (g + 1) ∧ Kept w wr) (fun i _ => len - (intOf i).toNat)
  case atStart => exact ⟨0, b, m, f, Nat.zero_le _, rfl, I0, R0, room, k0⟩
  case round =>
    clear R0 room k0 I0
    obtain ⟨k, B, M, FF, hk, rfl, hI, hX, room, kw⟩ := hrel
    have HX := Lib.hid hX
    clear hX
    by_cases hlt : k < len
    · have hltI : (k : Int) < (len : Int) := by omega
      obtain ⟨bb, off, rfl, hc⟩ := (HR.out.kept kw) (by omega)
      have c1 : wr.cell? ⟨bb, off + k, none⟩ = some (.int .i64 (zs.getD k 0)) := hc k hlt
      clear hc
      obtain ⟨B2, M2, F2, er, hI2, S⟩ := IS'.out k B M FF hlt hI
      generalize zs.getD k 0 = z at c1 S
      have HS := Lib.hid S
      have HI := Lib.hid hI2
      clear S hI2
      have lx := RC.ne HX.out
      have lroom : g + 1 < wr.heap.size := by obtain ⟨_, _, _, h, _⟩ := room; exact cell_lt h
      obtain ⟨⟨x0, x1, x2⟩, x3, x4, x5⟩ := HX.out
      go_upto_region 4 with fail
      have base_a := Lib.hid (show wr.cell? ⟨g, 0, none⟩ = some (.bool B) ∧ wr.cell? ⟨g, 1, none⟩ = some (.int .i64 M) ∧ wr.cell? ⟨g, 2, none⟩ = some (.int .i64 FF) ∧ wr.cell? ⟨bb, off + k, none⟩ = some (.int .i64 z) from ⟨x0, x1, x2, c1⟩)
      go_cut [6] (fun s6 wx => ∃ g : Nat, s6 = .pointer (some ⟨g, 0, none⟩) ∧ RC wx g B2 M2 F2 ∧ wr.heap.size ≤ g ∧ Kept wr wx)
      case first =>
        go_region_held3 (fun w' => w'.cell? ⟨g, 0, none⟩ = some (.bool B) ∧ w'.cell? ⟨g, 1, none⟩ = some (.int .i64 M) ∧ w'.cell? ⟨g, 2, none⟩ = some (.int .i64 FF) ∧ w'.cell? ⟨bb, off + k, none⟩ = some (.int .i64 z))
          ((refine Kept.all4r ?_ base_a; focus ((repeat (first | with_reducible exact Kept.refl _ | with_reducible apply Kept.drew | with_reducible apply Kept.alloc | ((with_reducible apply Kept.set); focus (simp <;> omega)) | ((with_reducible apply Kept.via); focus with_reducible assumption))); done)))
          (first
            | (go_at_call 10; refine (HS.out _).mono ?_; rintro e v1 ⟨rfl, i1⟩; (try (first | (with_reducible have nr := Room3.newD i1) | (with_reducible have nr := Room3.new i1) | (with_reducible have nr := Room3.kept nr i1))); have y1 := Kept.below i1; (try simp at y1); (try (obtain ⟨nx, ny, nz, na1, na2, na3, nb1, nb2, nb3⟩ := nr))))
        all_goals
          go_wp2_with fail
          go_meet
          exact ⟨_, rfl, ⟨⟨by simp [*, go_sem], by simp [*, go_sem], by simp [*, go_sem]⟩, by simp [*, go_sem], by simp [*, go_sem], by simp [*, go_sem]⟩, (by first | omega | (simp; omega)), (by (repeat (first | with_reducible exact Kept.refl _ | with_reducible apply Kept.drew | with_reducible apply Kept.alloc | ((with_reducible apply Kept.set); focus (simp <;> omega)) | ((with_reducible apply Kept.via); focus with_reducible assumption))))⟩
      obtain ⟨g_a, rfl, ra, la, K_a⟩ := hcut
      generalize wc = Wa at *
      have RA := Lib.hid ra
      have HX2 := Lib.hid (HX.out.kept K_a)
      have room2 := Lib.hid (room.kept K_a)
      have kwa := Kept.trans kw K_a
      clear ra c1 x0 x1 x2 x3 x4 x5 HX kw K_a base_a room
      have na1 : ¬ g_a = g := by omega
      have na2 : ¬ g = g_a := by omega
      obtain ⟨⟨a0, a1, a2⟩, a3, a4, a5⟩ := RA.out
      obtain ⟨⟨x0, x1, x2⟩, x3, x4, x5⟩ := HX2.out
      have hgw : w.heap.size ≤ g := by omega
      go_wp2
      go_roundw
      case rel => exact ⟨k + 1, B2, M2, F2, by omega, by go_num, HI.out, ⟨⟨by simp [*, go_sem], by simp [*, go_sem], by simp [*, go_sem]⟩, by simp [*, go_sem], by simp [*, go_sem], by simp [*, go_sem]⟩, Room3.setCell (Room3.setCell (Room3.setCell room2.out (by simp) _) (by simp) _) (by simp) _, (by (repeat (first | with_reducible exact Kept.refl _ | with_reducible apply Kept.drew | with_reducible apply Kept.alloc | ((with_reducible apply Kept.set); focus (simp <;> omega)) | ((with_reducible apply Kept.via); focus with_reducible assumption))))⟩
      case measure => simp [intOf]; omega
    · obtain rfl : k = len := by omega
      obtain ⟨⟨x0, x1, x2⟩, x3, x4, x5⟩ := HX.out
      obtain ⟨nx, ny, nz, na1, na2, na3, nb1, nb2, nb3⟩ := room
      have hgw : w.heap.size ≤ g := by omega
      cases B
      all_goals
        go_wp2
        simp [bodyPost, results, Try.results18, go_sem, *]
        exact ⟨_, _, hI, ⟨rfl, rfl⟩, (by (repeat (first | with_reducible exact Kept.refl _ | with_reducible apply Kept.drew | with_reducible apply Kept.alloc | ((with_reducible apply Kept.set); focus (simp <;> omega)) | ((with_reducible apply Kept.via); focus with_reducible assumption))))⟩
set_option maxRecDepth 100000 in
set_option maxHeartbeats 1600000 in
theorem known_long (A : Option Addr) (len cap : Nat) (w : World) (hl : 100 < len) (hm : len ≤ 9223372036854775807) : Calls Try.prog 7 #[.slice A len cap] w fun e w' => e = .returned (.bool true) ∧ Kept w w' := by
  have hd : decide ((100 : Int) < (len : Int)) = true := by simp; omega
  go_enter Try.func7, Try.ntmps7
  go_wp2_with fail
  refine (awake06 _).mono ?_
  rintro e w1 ⟨rfl, k1⟩
  go_wp2
  go_ret
  exact ⟨rfl, (by (repeat (first | with_reducible exact Kept.refl _ | with_reducible apply Kept.drew | with_reducible apply Kept.alloc | ((with_reducible apply Kept.set); focus (simp <;> omega)) | ((with_reducible apply Kept.via); focus with_reducible assumption))))⟩
set_option maxRecDepth 100000 in
set_option maxHeartbeats 3200000 in
theorem known_short (A : Option Addr) (len cap : Nat) (zs : List Int) (hl : len ≤ 100) (I1 : Bool → Int → Int → Prop) (I2 : Nat → Bool → Int → Int → Prop)
    (AL : ∀ w, RowAt w A len (fun j => .int .i64 (zs.getD j 0)) → Calls Try.prog 18 #[.agg #[.bool false, .int .i64 0, .int .i64 0], .slice A len cap] w fun e w' => ∃ B M F, I1 B M F ∧ e = .returned (.agg #[.bool B, .int .i64 M, .int .i64 F]) ∧ Kept w w')
    (J0 : I2 0 false 1073741824 1)
    (JI : ∀ k s lo hi, k < len → I2 k s lo hi → 1 ≤ zs.getD k 0 → zs.getD k 0 ≤ 1073741824 → I2 (k + 1) true (min lo (zs.getD k 0)) (max hi (zs.getD k 0)))
    (JO : ∀ k s lo hi, k < len → I2 k s lo hi → ¬ (1 ≤ zs.getD k 0 ∧ zs.getD k 0 ≤ 1073741824) → I2 (k + 1) s lo hi)
    (JE : ∀ B M F s lo hi, I1 B M F → I2 len s lo hi → B = s ∧ (∀ w, Calls Try.prog 12 #[.agg #[.bool B, .int .i64 M, .int .i64 F]] w fun e w' => e = .returned (.bool true) ∧ Kept w w') ∧ (s = true → ∃ p : Int, lo ≤ p ∧ p ≤ hi ∧ ∀ w, Calls Try.prog 14 #[.agg #[.bool B, .int .i64 M, .int .i64 F]] w fun e w' => e = .returned (.int .i64 p) ∧ Kept w w')) (w : World) (hr : RowAt w A len (fun j => .int .i64 (zs.getD j 0))) : Calls Try.prog 7 #[.slice A len cap] w fun e w' => e = .returned (.bool true) ∧ Kept w w' := by
  have hd : decide ((100 : Int) < (len : Int)) = false := by simp; omega
  have HR := Lib.hid hr
  have AL' := Lib.hid AL
  have JI' := Lib.hid JI
  have JO' := Lib.hid JO
  have JE' := Lib.hid JE
  clear hr AL JI JO JE
  go_enter Try.func7, Try.ntmps7
  go_wp2_with fail
  refine (awake06 _).mono ?_
  rintro e w1 ⟨rfl, k1⟩
  go_wp2_with fail
  refine (AL'.out _ (HR.out.kept k1)).mono ?_
  rintro e w2 ⟨B, M, FF, hI1, rfl, k2⟩
  go_upto_region 5 with fail
  generalize hW : World.alloc w2 (.cells #[.bool B, .int .i64 M, .int .i64 FF] 23) = W_r
  have K_r : Kept w2 W_r := by subst hW; exact (Kept.refl _).alloc _ _
  have R_r : RC W_r w2.heap.size B M FF := by subst hW; exact ⟨⟨by simp [go_sem], by simp [go_sem], by simp [go_sem]⟩, by simp [go_sem], by simp [go_sem], by simp [go_sem]⟩
  clear hW
  have lr : w.heap.size ≤ w2.heap.size := Kept.below (Kept.trans k1 k2)
  have kr : Kept w W_r := Kept.trans (Kept.trans k1 k2) K_r
  clear k1 k2 K_r
  generalize w2.heap.size = g_r at *
  go_wp2
  go_loopw [5, 6, 7, 8] (fun sm lo hi i wr => ∃ (k : Nat) (s : Bool) (l h : Int), k ≤ len ∧ i = .int .i64 k ∧ sm = .bool s ∧ lo = .int .i64 l ∧ hi = .int .i64 h ∧ I2 k s l h ∧ RC wr g_r B M FF ∧ Kept w wr) (fun _ _ _ i _ => len - (intOf i).toNat)
  case atStart => exact ⟨0, false, _, _, Nat.zero_le _, rfl, rfl, rfl, rfl, J0, R_r, kr⟩
  case round =>
    clear R_r kr J0 hd
    obtain ⟨k, s, l, h, hk, rfl, rfl, rfl, rfl, hI2, hX, kw⟩ := hrel
    have HX := Lib.hid hX
    clear hX
    by_cases hlt : k < len
    · have hltI : (k : Int) < (len : Int) := by omega
      obtain ⟨bb, off, rfl, hc⟩ := (HR.out.kept kw) (by omega)
      have c1 : wr.cell? ⟨bb, off + k, none⟩ = some (.int .i64 (zs.getD k 0)) := hc k hlt
      clear hc
      have ji := JI'.out k s l h hlt hI2
      have jo := JO'.out k s l h hlt hI2
      generalize zs.getD k 0 = z at c1 ji jo
      clear hI2
      by_cases z0 : z < 1
      · have JJ := Lib.hid (jo (by omega))
        clear ji jo
        go_wp2
        go_roundw
        case rel => exact ⟨k + 1, s, l, h, by omega, by go_num, rfl, rfl, rfl, JJ.out, HX.out, kw⟩
        case measure => simp [intOf]; omega
      · have z1 : 1 ≤ z := by omega
        by_cases z2 : 1073741824 < z
        · have JJ := Lib.hid (jo (by omega))
          have d1 : decide (z ≤ 1073741824) = false := by simp; omega
          clear ji jo z0
          go_wp2
          go_roundw
          case rel => exact ⟨k + 1, s, l, h, by omega, by go_num, rfl, rfl, rfl, JJ.out, HX.out, kw⟩
          case measure => simp [intOf]; omega
        · have z3 : z ≤ 1073741824 := by omega
          have J := ji z1 z3
          clear ji jo z0 z2
          rcases Int.lt_trichotomy l z with h1 | h1 | h1 <;> rcases Int.lt_trichotomy h z with h2 | h2 | h2
          all_goals
            obtain ⟨l', hl'⟩ : ∃ x, x = min l z := ⟨_, rfl⟩
            obtain ⟨h', hh'⟩ : ∃ x, x = max h z := ⟨_, rfl⟩
            rw [← hl', ← hh'] at J
            have JJ := Lib.hid J
            have EL := Lib.hid hl'
            have EH := Lib.hid hh'
            clear J hl' hh'
            first
              | (subst h1; subst h2)
              | subst h1
              | subst h2
              | skip
            go_wp2
            go_roundw
            case rel => exact ⟨k + 1, true, l', h', by omega, by go_num, rfl, by rw [EL.out]; first | (congr 1; omega) | (simp), by rw [EH.out]; first | (congr 1; omega) | (simp), JJ.out, HX.out, kw⟩
            case measure => simp [intOf]; omega
    · obtain rfl : k = len := by omega
      obtain ⟨rfl, C, E⟩ := JE'.out B M FF s l h hI1 hI2
      have C1' := Lib.hid C
      clear C hI1 hI2 hk
      obtain ⟨⟨x0, x1, x2⟩, x3, x4, x5⟩ := HX.out
      cases B with
      | false =>
        go_wp2_with fail
        refine (C1'.out _).mono ?_
        rintro e w3 ⟨rfl, k3⟩
        clear x0 x1 x2 x3 x4 x5
        obtain ⟨⟨x0, x1, x2⟩, x3, x4, x5⟩ := HX.out.kept k3
        go_wp2
        go_ret
        exact ⟨rfl, Kept.trans kw k3⟩
      | true =>
        obtain ⟨p, p0, p1, MM⟩ := E rfl
        have MM' := Lib.hid MM
        clear MM E
        go_wp2_with fail
        refine (C1'.out _).mono ?_
        rintro e w3 ⟨rfl, k3⟩
        clear x0 x1 x2 x3 x4 x5
        obtain ⟨⟨x0, x1, x2⟩, x3, x4, x5⟩ := HX.out.kept k3
        go_wp2_with fail
        refine (MM'.out _).mono ?_
        rintro e w4 ⟨rfl, k4⟩
        clear x0 x1 x2 x3 x4 x5
        obtain ⟨⟨x0, x1, x2⟩, x3, x4, x5⟩ := HX.out.kept (Kept.trans k3 k4)
        go_wp2_with fail
        refine (MM'.out _).mono ?_
        rintro e w5 ⟨rfl, k5⟩
        go_wp2
        go_ret
        exact ⟨rfl, Kept.trans (Kept.trans (Kept.trans kw k3) k4) k5⟩
/-- One time more: has one come that may be, the least, the greatest. -/
def stepK (z : Int) (s : Bool × Int × Int) : Bool × Int × Int := if 1 ≤ z ∧ z ≤ 1073741824 then (true, min s.2.1 z, max s.2.2 z) else s
/-- The same behind k times. -/
def foldK (zs : List Int) : Nat → Bool × Int × Int | 0 => (false, 1073741824, 1) | k + 1 => stepK (zs.getD k 0) (foldK zs k)
theorem fold_in {zs : List Int} {k : Nat} (h : 1 ≤ zs.getD k 0 ∧ zs.getD k 0 ≤ 1073741824) : foldK zs (k + 1) = (true, min (foldK zs k).2.1 (zs.getD k 0), max (foldK zs k).2.2 (zs.getD k 0)) := by
  show stepK _ _ = _
  unfold stepK
  rw [if_pos h]
theorem fold_out {zs : List Int} {k : Nat} (h : ¬ (1 ≤ zs.getD k 0 ∧ zs.getD k 0 ≤ 1073741824)) : foldK zs (k + 1) = foldK zs k := by
  show stepK _ _ = _
  unfold stepK
  rw [if_neg h]
/-- What is known behind k times. -/
def KnownI (zs : List Int) (k : Nat) (B : Bool) (M F : Int) : Prop := MayRtt B M F ∧ B = (foldK zs k).1 ∧ (B = true → (foldK zs k).2.1 ≤ M / 8 ∧ M / 8 ≤ (foldK zs k).2.2)
theorem known_step {zs : List Int} {k : Nat} {B : Bool} {M F : Int} (h : KnownI zs k B M F) : ∃ B' M' F' er, KnownI zs (k + 1) B' M' F' ∧ SampleIs B M F (zs.getD k 0) B' M' F' er := by
  obtain ⟨hm, hb, hv⟩ := h
  obtain ⟨B', M', F', er, s⟩ := sample_ex B M F (zs.getD k 0)
  refine ⟨B', M', F', er, ⟨sample_may s hm, ?_⟩, s⟩
  rcases s with ⟨hn, rfl, rfl, rfl, rfl⟩ | ⟨_, ht, rfl, rfl, rfl, rfl, rfl⟩ | ⟨_, ht, rfl, rfl, rfl, rfl, rfl⟩
  · have ho : ¬ (1 ≤ zs.getD k 0 ∧ zs.getD k 0 ≤ 1073741824) := fun hh => hn ⟨hm, hh⟩
    rw [fold_out ho]
    exact ⟨hb, hv⟩
  · rw [fold_in ht]
    generalize zs.getD k 0 = z at *
    refine ⟨rfl, fun _ => ⟨?_, ?_⟩⟩
    · show min _ z ≤ 8 * z / 8; omega
    · show 8 * z / 8 ≤ max _ z; omega
  · rw [fold_in ht]
    obtain ⟨v1, v2⟩ := hv rfl
    generalize zs.getD k 0 = z at *
    generalize (foldK zs k).2.1 = lo at *
    generalize (foldK zs k).2.2 = hi at *
    refine ⟨rfl, fun _ => ⟨?_, ?_⟩⟩
    · show min lo z ≤ (M + z - M / 8) / 8; omega
    · show (M + z - M / 8) / 8 ≤ max hi z; omega
theorem rttKnown_walk (A : Option Addr) (len cap : Nat) (zs : List Int) (w : World) (hm : len ≤ 9223372036854775807) (hr : RowAt w A len (fun j => .int .i64 (zs.getD j 0))) : Calls Try.prog 7 #[.slice A len cap] w fun e w' => e = .returned (.bool true) ∧ Kept w w' := by
  by_cases h : len ≤ 100
  · refine known_short A len cap zs h (fun B M F => KnownI zs len B M F) (fun k s lo hi => foldK zs k = (s, lo, hi))
      (fun w hr => all_ok A len cap zs hm (fun k B M F => KnownI zs k B M F) ⟨may0, rfl, fun h => by cases h⟩ (fun k B M F _ hI => ?_) w hr)
      rfl (fun k s lo hi _ hI z0 z1 => ?_) (fun k s lo hi _ hI ho => ?_) (fun B M F s lo hi hI hJ => ?_) w hr
    · obtain ⟨B', M', F', er, i, s⟩ := known_step hI
      exact ⟨B', M', F', er, i, fun w => Sample_ok s w⟩
    · show foldK zs (k + 1) = _
      rw [fold_in ⟨z0, z1⟩, hI]
    · show foldK zs (k + 1) = _
      rw [fold_out ho]; exact hI
    · obtain ⟨h1, h2, h3⟩ := hI
      rw [hJ] at h2 h3
      refine ⟨h2, fun w => Check_yes h1 w, fun hs => ?_⟩
      obtain ⟨v1, v2⟩ := h3 (h2.trans hs)
      exact ⟨M / 8, v1, v2, fun w => mean_val h1 w⟩
  · exact known_long A len cap w (by omega) hm
end Go.Proofs.Ythjchmjpiijfnaa
