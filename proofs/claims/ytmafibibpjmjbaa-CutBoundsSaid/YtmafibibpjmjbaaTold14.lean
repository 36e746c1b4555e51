/-
  Plain words of layer 14: how a window grows.
-/
import Derived.Test.YtmafibibpjmjbaaTold11
import Derived.Test.YtmafibibpjmjbaaTold10
namespace Go.Proofs.Ytmafibibpjmjbaa
open Go.RowKit

/-- The window that counts. -/
def givG (n : Int) : Int := if n < 131072 then 131072 else if 68719476736 < n then 68719476736 else n
theorem givG_range (n : Int) : 131072 ≤ givG n ∧ givG n ≤ 68719476736 := by unfold givG; split <;> (try split) <;> omega
theorem givG_mono {a b : Int} (h : a ≤ b) : givG a ≤ givG b := by unfold givG; split <;> split <;> (try split) <;> (try split) <;> omega
theorem givG_of {n : Int} (h : 131072 ≤ n ∧ n ≤ 68719476736) : givG n = n := by unfold givG; rw [if_neg (by omega), if_neg (by omega)]
theorem givG_twice (n : Int) : givG (givG n) = givG n := givG_of (givG_range n)
/-- What is told, in slow start. -/
def eightG (t : Int) : Int := if 524288 < gapK t then 524288 else gapK t
theorem eightG_range (t : Int) : 0 ≤ eightG t ∧ eightG t ≤ 524288 := by have := gapK_range t; unfold eightG; split <;> omega
theorem eightG_mono {a b : Int} (h : a ≤ b) : eightG a ≤ eightG b := by have := gapK_rises h; unfold eightG; split <;> split <;> omega
theorem partG_range (h : Hs) {n : Int} (h0 : 0 ≤ n) : 0 ≤ partH h n ∧ partH h n ≤ n := by unfold partH; split <;> (try split) <;> omega
theorem partG_mono (h : Hs) {a b : Int} (l : a ≤ b) (h0 : 0 ≤ a) : partH h a ≤ partH h b := by
  unfold partH
  by_cases d : h.done = true
  · rw [if_pos (Or.inl d), if_pos (Or.inl d)]; exact Int.le_refl _
  · have na : ∀ x : Int, 0 ≤ x → ¬ (h.done = true ∨ x < 0) := fun x hx y => by rcases y with y | y <;> first | exact d y | omega
    rw [if_neg (na a h0), if_neg (na b (by omega))]; split <;> omega
theorem partG_zero (h : Hs) : partH h 0 = 0 := by unfold partH; split <;> (try split) <;> omega
def slowG (h : Hs) (window t : Int) : Int := givG (givG window + partH h (eightG t))
/-- How far, up to a target. -/
def farG (w target t : Int) : Int := gapK t * (target - w) / w
def calmG (window target t : Int) : Int :=
  if target ≤ givG window then givG window else givG (if target < heldAt (givG window + heldAt (farG (givG window) target t)) then target else heldAt (givG window + heldAt (farG (givG window) target t)))
def bothG (window target est t : Int) : Int := givG (if calmG window target t < est then est else calmG window target t)
def limitG (window most : Int) : Int := if givG most < givG window then givG most else givG window
theorem slow_range (h : Hs) (window t : Int) : 131072 ≤ slowG h window t ∧ slowG h window t ≤ 68719476736 := givG_range _
theorem calm_range (window target t : Int) : 131072 ≤ calmG window target t ∧ calmG window target t ≤ 68719476736 := by
  unfold calmG; split
  · exact givG_range _
  · exact givG_range _
theorem both_range (window target est t : Int) : 131072 ≤ bothG window target est t ∧ bothG window target est t ≤ 68719476736 := givG_range _
theorem limit_range (window most : Int) : 131072 ≤ limitG window most ∧ limitG window most ≤ 68719476736 := by
  have := givG_range window; have := givG_range most; unfold limitG; split <;> omega
theorem far_pos {w target t : Int} (hw : 0 < w) (h : w ≤ target) : 0 ≤ farG w target t := by
  unfold farG
  exact Int.ediv_nonneg (Int.mul_nonneg (gapK_range t).1 (by omega)) (by omega)
theorem far_told {w target t u : Int} (hw : 0 < w) (h : w ≤ target) (l : t ≤ u) : farG w target t ≤ farG w target u := by
  unfold farG
  exact Int.ediv_le_ediv hw (Int.mul_le_mul_of_nonneg_right (gapK_rises l) (by omega))
theorem far_target {w a b t : Int} (hw : 0 < w) (l : a ≤ b) : farG w a t ≤ farG w b t := by
  unfold farG
  exact Int.ediv_le_ediv hw (Int.mul_le_mul_of_nonneg_left (by omega) (gapK_range t).1)
theorem held_nonneg {n : Int} (h : 0 ≤ n) : 0 ≤ heldAt n := by unfold heldAt; split <;> (try split) <;> omega
theorem calm_up (window target t : Int) : givG window ≤ calmG window target t := by
  have r := givG_range window
  unfold calmG
  split
  · exact Int.le_refl _
  · rename_i h
    have q := held_nonneg (far_pos (t := t) (show 0 < givG window by omega) (show givG window ≤ target by omega))
    generalize heldAt (farG (givG window) target t) = f at *
    have m : givG window ≤ heldAt (givG window + f) := by
      have := heldAt_mono (m := givG window) (n := givG window + f) (by omega)
      rw [heldAt_of (n := givG window) (by unfold In64; omega)] at this
      exact this
    have a := givG_mono (a := givG window) (b := if target < heldAt (givG window + f) then target else heldAt (givG window + f)) (by split <;> omega)
    rw [givG_twice] at a
    exact a
theorem calm_target (window target t : Int) (h : givG window ≤ target) : calmG window target t ≤ givG target := by
  unfold calmG
  split
  · rename_i x
    have := givG_mono h
    rw [givG_twice] at this
    exact this
  · exact givG_mono (by split <;> omega)
theorem calm_most {w target t : Int} (h : 131072 ≤ w ∧ w ≤ 68719476736) : calmG w target t ≤ w ∨ (calmG w target t ≤ target ∧ w < target) := by
  by_cases x : target ≤ w
  · left; unfold calmG; rw [givG_of h, if_pos x]; exact Int.le_refl _
  · right
    refine ⟨?_, by omega⟩
    have := calm_target w target t (by rw [givG_of h]; omega)
    have q : givG target ≤ target := by unfold givG; rw [if_neg (by omega)]; split <;> omega
    omega
theorem slow_told (h : Hs) (window : Int) {t u : Int} (l : t ≤ u) : slowG h window t ≤ slowG h window u := by
  unfold slowG
  have := partG_mono h (eightG_mono l) (eightG_range t).1
  exact givG_mono (by omega)
theorem calm_told (window target : Int) {t u : Int} (l : t ≤ u) : calmG window target t ≤ calmG window target u := by
  have r := givG_range window
  unfold calmG
  split
  · exact Int.le_refl _
  · have a := heldAt_mono (far_told (show 0 < givG window by omega) (show givG window ≤ target by omega) l)
    have b := heldAt_mono (m := givG window + heldAt (farG (givG window) target t)) (n := givG window + heldAt (farG (givG window) target u)) (by omega)
    exact givG_mono (by split <;> split <;> omega)
theorem calm_far (window t : Int) {a b : Int} (l : a ≤ b) : calmG window a t ≤ calmG window b t := by
  by_cases x : a ≤ givG window
  · have := calm_up window b t
    conv => lhs; unfold calmG
    rw [if_pos x]; exact this
  · have r := givG_range window
    unfold calmG
    rw [if_neg x, if_neg (show ¬ b ≤ givG window by omega)]
    have c := heldAt_mono (far_target (t := t) (show 0 < givG window by omega) l)
    have d := heldAt_mono (m := givG window + heldAt (farG (givG window) a t)) (n := givG window + heldAt (farG (givG window) b t)) (by omega)
    refine givG_mono ?_
    generalize heldAt (givG window + heldAt (farG (givG window) a t)) = u at *
    generalize heldAt (givG window + heldAt (farG (givG window) b t)) = v at *
    repeat' split
    all_goals omega
theorem both_est (window target t : Int) {a b : Int} (l : a ≤ b) : bothG window target a t ≤ bothG window target b t := by
  unfold bothG
  exact givG_mono (by split <;> split <;> omega)
theorem both_up (window target est t : Int) : calmG window target t ≤ bothG window target est t := by
  have a := givG_mono (a := calmG window target t) (b := if calmG window target t < est then est else calmG window target t) (by split <;> omega)
  rw [givG_of (calm_range window target t)] at a
  exact a
theorem both_most (window target est t : Int) : bothG window target est t ≤ calmG window target t ∨ (bothG window target est t ≤ est ∧ calmG window target t < est) := by
  have c := calm_range window target t
  unfold bothG
  by_cases x : calmG window target t < est
  · rw [if_pos x]
    right
    refine ⟨?_, x⟩
    unfold givG; rw [if_neg (by omega)]; split <;> omega
  · rw [if_neg x, givG_of c]; exact Or.inl (Int.le_refl _)
theorem slow_bounds (h : Hs) {w : Int} (t : Int) (hw : 131072 ≤ w ∧ w ≤ 68719476736) : w ≤ slowG h w t ∧ slowG h w t ≤ w + 524288 := by
  have p := partG_range h (eightG_range t).1
  have e := eightG_range t
  unfold slowG
  rw [givG_of hw]
  unfold givG
  split
  · omega
  · split <;> omega
/-- Exactly. -/
theorem far_less {w gap t : Int} (hw : 0 < w) (hg : 0 ≤ gap) (ht : 0 ≤ t ∧ t ≤ w) : t * gap / w ≤ gap := by
  refine Int.ediv_le_of_le_mul hw ?_
  have := Int.mul_le_mul_of_nonneg_right ht.2 hg
  rw [Int.mul_comm gap w]; omega
theorem calm_exact {w gap t : Int} (hw : 131072 ≤ w) (hg : 0 ≤ gap) (hm : w + gap ≤ 68719476736) (ht : 0 ≤ t ∧ t ≤ w) : calmG w (w + gap) t = w + t * gap / w := by
  have f := far_less (by omega) hg ht
  have f0 : 0 ≤ t * gap / w := Int.ediv_nonneg (Int.mul_nonneg ht.1 hg) (by omega)
  unfold calmG
  rw [givG_of (n := w) (by omega)]
  by_cases z : gap = 0
  · subst z; rw [if_pos (by omega)]; simp
  · rw [if_neg (by omega)]
    have e : farG w (w + gap) t = t * gap / w := by
      unfold farG
      rw [gapK_in (g := t) (by omega), show w + gap - w = gap by omega]
    rw [e, heldAt_of (n := t * gap / w) (by unfold In64; omega), heldAt_of (by unfold In64; omega)]
    generalize t * gap / w = q at *
    split
    · rw [givG_of (by omega)]; omega
    · exact givG_of (by omega)
theorem calm_meets {w gap : Int} (hw : 131072 ≤ w) (hg : 0 ≤ gap) (hm : w + gap ≤ 68719476736) : calmG w (w + gap) w = w + gap := by
  rw [calm_exact hw hg hm ⟨by omega, Int.le_refl _⟩, Int.mul_comm w gap, Int.mul_ediv_cancel gap (by omega)]
theorem floor_exact {w x : Int} (hw : 0 < w) : x / w * w ≤ x ∧ x < (x / w + 1) * w := ⟨Int.ediv_mul_le x (by omega), Int.lt_ediv_add_one_mul_self x hw⟩
theorem calm_stays {x target t : Int} (hx : 131072 ≤ x) (h : x ≤ target) (hm : target ≤ 68719476736) : x ≤ calmG x target t ∧ calmG x target t ≤ target := by
  have a := calm_up x target t
  have b := calm_target x target t (by rw [givG_of (by omega)]; exact h)
  rw [givG_of (n := x) (by omega)] at a
  rw [givG_of (n := target) (by omega)] at b
  exact ⟨a, b⟩
theorem calm_none (window target : Int) : calmG window target 0 = givG window := by
  have r := givG_range window
  unfold calmG
  by_cases x : target ≤ givG window
  · rw [if_pos x]
  · rw [if_neg x]
    have e : farG (givG window) target 0 = 0 := by unfold farG; rw [gapK_in (g := 0) (by omega)]; simp
    rw [e, heldAt_of (n := 0) (by unfold In64; omega), Int.add_zero, heldAt_of (by unfold In64; omega), if_neg (by omega), givG_twice]
theorem slow_none (h : Hs) (window : Int) : slowG h window 0 = givG window := by
  have e : eightG 0 = 0 := by unfold eightG; rw [gapK_in (g := 0) (by omega)]; rfl
  unfold slowG
  rw [e, partG_zero, Int.add_zero, givG_twice]
theorem both_none (window target : Int) : bothG window target 0 0 = givG window := by
  have r := givG_range window
  unfold bothG
  rw [calm_none, if_neg (by omega), givG_twice]
theorem limit_most (window : Int) : limitG window 68719476736 = givG window := by
  have r := givG_range window
  unfold limitG
  rw [givG_of (n := 68719476736) (by omega), if_neg (by omega)]
theorem giv_limit (window a : Int) : givG (limitG window a) = limitG window a := givG_of (limit_range window a)
theorem limit_again (window a : Int) : limitG (limitG window a) a = limitG window a := by
  have e := giv_limit window a
  have q : limitG (limitG window a) a = if givG a < givG (limitG window a) then givG a else givG (limitG window a) := rfl
  rw [q, e]; unfold limitG; repeat' split
  all_goals omega
theorem limit_turn (window a : Int) : limitG window a = limitG a window := by unfold limitG; split <;> split <;> omega
theorem limit_both (window a b : Int) : limitG (limitG window a) b = limitG (limitG window b) a := by
  have e := giv_limit window a
  have f := giv_limit window b
  have q : limitG (limitG window a) b = if givG b < givG (limitG window a) then givG b else givG (limitG window a) := rfl
  have r : limitG (limitG window b) a = if givG a < givG (limitG window b) then givG a else givG (limitG window b) := rfl
  rw [q, r, e, f]; unfold limitG; repeat' split
  all_goals omega
end Go.Proofs.Ytmafibibpjmjbaa
