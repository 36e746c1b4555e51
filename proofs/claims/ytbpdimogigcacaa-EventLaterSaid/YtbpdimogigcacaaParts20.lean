/-
  The walk of EventParts: it answers true, if the calls do what they are to do.
-/
import Derived.Test.YtbpdimogigcacaaAwake20
import Derived.Test.YtbpdimogigcacaaRises20
import Derived.Test.YtbpdimogigcacaaRefB20
import Derived.OwnWalk
import Derived.Deep.RegionHeld3
import Derived.Deep.DeepCutAuto
namespace Go.Proofs.Ytbpdimogigcacaa
open Go.RowKit Go.BigFrame
set_option linter.unusedVariables false

theorem infoSl : (Try.prog.info? 24).map (fun i => (i.zero, i.size, i.bytes)) = some (some (.slice none 0 0), 1, 24) := by kernel_rfl
theorem own_rowS {w : World} {base : Nat} {e : TypeId} {v : Value} {n : Nat} {xs : List Value} (h : w.ownsRow base e 1 v n xs) : ∃ (A : Option Addr) (c : Nat), v = .slice A n c ∧ SliceOk A n c ∧ ∀ f : Nat → Value, (∀ j, j < n → xs[j]? = some (f j)) → RowAt w A n f := by
  rcases h.2 with ⟨rfl, rfl⟩ | ⟨g, cap, cur, rfl, _, hg, hc, hm, _, _⟩
  · exact ⟨none, 0, rfl, ⟨Nat.le_refl _, Nat.zero_le _, fun _ => rfl⟩, fun f _ h0 => absurd h0 (by omega)⟩
  · refine ⟨some ⟨g, 0, none⟩, cap, rfl, ⟨hc, by simp only [maxLen] at hm; omega, fun h => by cases h⟩, fun f hf _ => ⟨g, 0, rfl, fun k hk => ?_⟩⟩
    have := h.cells (g := g) rfl k _ (hf k hk)
    rwa [Addr.add_lit] at this
/-- Where there is no error, of the first j. -/
def okJ (b : List Int) (j : Nat) : List Nat := (List.range j).filter fun i => decide (b.getD i 0 = 0)
theorem okJ_next (b : List Int) (j : Nat) : okJ b (j + 1) = if b.getD j 0 = 0 then okJ b j ++ [j] else okJ b j := by
  unfold okJ
  rw [List.range_succ, List.filter_append]
  by_cases h : b.getD j 0 = 0
  · rw [if_pos h, List.filter_cons, if_pos (by simpa using h)]; rfl
  · rw [if_neg h, List.filter_cons, if_neg (by simpa using h)]; simp
theorem getD_mem {J : List Nat} {i : Nat} (h : i < J.length) : J.getD i 0 ∈ J := by
  have e : J.getD i 0 = J[i] := by simp [List.getD, h]
  rw [e]; exact List.getElem_mem _
theorem okJ_lt {b : List Int} {j i : Nat} (h : i ∈ okJ b j) : i < j := by unfold okJ at h; exact List.mem_range.1 (List.mem_filter.1 h).1
theorem okJ_len (b : List Int) (j : Nat) : (okJ b j).length ≤ j := by have := List.length_filter_le (fun i => decide (b.getD i 0 = 0)) (List.range j); rw [List.length_range] at this; exact this
theorem aB_at (R : Nat → List Int) : ∀ (n i : Nat), i < n → (aB R n).getD i 0 = stepE (aV R i) (R i)
  | 0, i, h => absurd h (by omega)
  | n + 1, i, h => by
    rw [aB_next]
    by_cases g : i < n
    · rw [← aB_at R n i g]; simp [List.getD, List.getElem?_append_left (show i < (aB R n).length by rw [aB_len]; exact g)]
    · obtain rfl : i = n := by omega
      simp [List.getD, aB_len]
theorem aB_pre (R : Nat → List Int) {k : Nat} : ∀ (n : Nat), k ≤ n → (aB R n).take k = aB R k
  | 0, h => by obtain rfl : k = 0 := by omega
               rfl
  | n + 1, h => by
    by_cases g : k ≤ n
    · rw [aB_next, List.take_append_of_le_length (by rw [aB_len]; exact g)]; exact aB_pre R n g
    · obtain rfl : k = n + 1 := by omega
      rw [List.take_of_length_le (by rw [aB_len]; omega)]
theorem aV_pre (R : Nat → List Int) {k : Nat} : ∀ (n : Nat), k ≤ n → (aV R k).length ≤ (aV R n).length ∧ (aV R n).take (aV R k).length = aV R k
  | 0, h => by obtain rfl : k = 0 := by omega
               exact ⟨Nat.le_refl _, rfl⟩
  | n + 1, h => by
    by_cases g : k ≤ n
    · obtain ⟨h1, h2⟩ := aV_pre R n g
      rw [aV_next]
      split
      · exact ⟨by simp; omega, by rw [List.take_append_of_le_length h1]; exact h2⟩
      · exact ⟨h1, h2⟩
    · obtain rfl : k = n + 1 := by omega
      exact ⟨Nat.le_refl _, List.take_of_length_le (Nat.le_refl _)⟩
/-- Those without an error, told alone, are told alike. -/
theorem good_all (R : Nat → List Int) (n : Nat) : ∀ j, j ≤ n → allV ((okJ (aB R n) j).map R) = (aV R j, List.replicate (okJ (aB R n) j).length 0)
  | 0, _ => rfl
  | j + 1, h => by
    have ih := good_all R n j (by omega)
    rw [okJ_next, aB_at R n j (by omega), aV_next]
    by_cases z : stepE (aV R j) (R j) = 0
    · rw [if_pos z, if_pos z, List.map_append, List.map_singleton, all_next, ih]
      unfold stepV
      simp only [z, if_true, List.length_append, List.length_singleton, List.replicate_succ']
    · rw [if_neg z, if_neg z, ih]
theorem good_len (R : Nat → List Int) (n : Nat) : (okJ (aB R n) n).length = (aV R n).length := by
  have h := all_zeros ((okJ (aB R n) n).map R)
  rw [good_all R n n (Nat.le_refl _)] at h
  have z : zerosV (List.replicate (okJ (aB R n) n).length 0) = (okJ (aB R n) n).length := by unfold zerosV; rw [List.filter_eq_self.2 (by intro a ha; simp [List.eq_of_mem_replicate ha])]; simp
  exact z.symm.trans h
theorem firstR_list (R : Nat → List Int) (J : List Nat) : firstR (fun i => R (J.getD i 0)) J.length = J.map R := by
  unfold firstR
  apply List.ext_getElem
  · simp
  · intro i h1 h2
    simp at h1
    simp [List.getD, h1]
theorem rowV_take {w : World} {B : Option Addr} {l : List Ev} {n : Nat} (h : RowV w B l) (hn : n ≤ l.length) : RowV w B (l.take n) := fun h0 => by
  rw [List.length_take, Nat.min_eq_left hn] at h0
  obtain ⟨b, off, e, hc⟩ := h (by omega)
  refine ⟨b, off, e, fun i hi j hj => ?_⟩
  rw [List.length_take, Nat.min_eq_left hn] at hi
  have q : ev0 (l.take n) i = ev0 l i := by simp [ev0, List.getD, hi]
  show _ = some (Value.int .i64 (evc (ev0 (l.take n) i) j))
  rw [q]
  exact hc i (by omega) j hj
theorem rowK_take {κ : IntKind} {w : World} {B : Option Addr} {l : List Int} {n : Nat} (h : RowK κ w B l) (hn : n ≤ l.length) : RowK κ w B (l.take n) := fun h0 => by
  rw [List.length_take, Nat.min_eq_left hn] at h0
  obtain ⟨b, off, e, hc⟩ := h (by omega)
  refine ⟨b, off, e, fun i hi => ?_⟩
  rw [List.length_take, Nat.min_eq_left hn] at hi
  have q : (l.take n).getD i 0 = l.getD i 0 := by simp [List.getD, hi]
  rw [hc i (by omega)]
  show _ = some (Value.int κ ((l.take n).getD i 0))
  rw [q]
theorem RowS.less {κ : IntKind} {w : World} {A : Option Addr} {len n : Nat} {B : Nat → Option Addr} {C : Nat → Nat} {R : Nat → List Int} (h : RowS κ w A len B C R) (hn : n ≤ len) : RowS κ w A n B C R :=
  ⟨fun h0 => by
    obtain ⟨b, off, e, hc⟩ := h.1 (by omega)
    exact ⟨b, off, e, fun i hi => hc i (by omega)⟩, fun i hi => h.2 i (by omega)⟩
theorem same20_use {A A2 : Option Addr} {c c2 n : Nat} {l : List Int} (hn : l.length = n) (s1 : SliceOk A n c) (s2 : SliceOk A2 n c2) (n1 : n ≤ 1099511627776) (w : World) (h1 : RowK .i64 w A l) (h2 : RowK .i64 w A2 l) : Calls Try.prog 19 #[.slice A n c, .slice A2 n c2] w fun e w' => e = .returned (.bool true) ∧ Kept w w' := by
  subst hn
  exact same16_ok s1 s2 n1 n1 (by simp) w h1 h2
set_option maxRecDepth 100000 in
set_option maxHeartbeats 6400000 in
theorem parts20_many (CC : EvCheckC) (DC : EvDecC) (NC : EvEncC) (AC : EvAllC) {A2 : Option Addr} {len2 cap2 : Nat} {B : Nat → Option Addr} {C : Nat → Nat} {R : Nat → List Int} {cut : Int} (hl2 : len2 ≤ 9223372036854775807) (hz2 : ∀ i, i < len2 → (R i).length ≤ 9223372036854775807) (no : ¬ ((∀ i, i < len2 → (R i).length ≤ 10) ∧ (len2 : Int) ≤ 100))  (w : World) (hr2 : RowS .i64 w A2 len2 B C R) : Calls Try.prog 7 #[.slice A2 len2 cap2, .int .u8 cut] w fun e w' => e = .returned (.bool true) ∧ Kept w w' := by
  have CC' := Lib.hid CC
  have DC' := Lib.hid DC
  have NC' := Lib.hid NC
  have AC' := Lib.hid AC
  have AW' := Lib.hid (fun w => awake20 CC DC NC AC w)
  clear CC DC NC AC
  have FW := Lib.hid (fun w_ (h : RowS .i64 w_ A2 len2 B C R) => refFew20_ok (cap := cap2) (m := 100) (v := false) (by omega) hz2 (by simp [no]) w_ h)
  have HS := Lib.hid hr2
  clear hr2 hz2 no
  go_enter Try.func7, Try.ntmps7
  go_wp2_with fail
  refine (AW'.out _).mono ?_
  rintro e w20 ⟨rfl, k20⟩
  go_wp2_with fail
  refine (FW.out _ (HS.out.kept (by (repeat (first | with_reducible exact Kept.refl _ | with_reducible apply Kept.drew | with_reducible apply Kept.alloc | ((with_reducible apply Kept.set); focus (simp <;> omega)) | ((with_reducible apply Kept.via); focus with_reducible assumption)))))).mono ?_
  rintro e w21 ⟨rfl, k21⟩
  go_wp2
  go_ret
  exact ⟨rfl, (by (repeat (first | with_reducible exact Kept.refl _ | with_reducible apply Kept.drew | with_reducible apply Kept.alloc | ((with_reducible apply Kept.set); focus (simp <;> omega)) | ((with_reducible apply Kept.via); focus with_reducible assumption))))⟩
set_option maxRecDepth 100000 in
set_option maxHeartbeats 6400000 in
theorem parts20_all (CC : EvCheckC) (DC : EvDecC) (NC : EvEncC) (AC : EvAllC) {A2 : Option Addr} {len2 cap2 : Nat} {B : Nat → Option Addr} {C : Nat → Nat} {R : Nat → List Int} {cut : Int} {n nk k : Nat} {l lk : List Ev} {bad bk : List Int} (hl2 : len2 ≤ 100) (hz2 : ∀ i, i < len2 → (R i).length ≤ 10) (c0 : 0 ≤ cut) (c1 : cut ≤ 255) (ck : cut.tmod ((len2 : Int) + 1) = (k : Int)) (hk : k ≤ len2) (hs2 : SliceOk A2 len2 cap2) (hzr : ∀ i, i < len2 → ∀ x ∈ R i, In64 x) (ea : allV (firstR R len2) = (l, bad)) (ek : allV (firstR R k) = (lk, bk)) (hn : l.length = n) (hnk : lk.length = nk) (hnn : nk ≤ n) (hb : bad.length = len2) (hp : l.take nk = lk ∧ bk.length = k ∧ bad.take k = bk) (hgood : (okJ bad len2).length = n ∧ allV ((okJ bad len2).map R) = (l, List.replicate (okJ bad len2).length 0))  (w : World) (hr2 : RowS .i64 w A2 len2 B C R) : Calls Try.prog 7 #[.slice A2 len2 cap2, .int .u8 cut] w fun e w' => e = .returned (.bool true) ∧ Kept w w' := by
  have CC' := Lib.hid CC
  have DC' := Lib.hid DC
  have NC' := Lib.hid NC
  have AC' := Lib.hid AC
  have AW' := Lib.hid (fun w => awake20 CC DC NC AC w)
  clear CC DC NC AC
  have FW := Lib.hid (fun w_ (h : RowS .i64 w_ A2 len2 B C R) => refFew20_ok (cap := cap2) (m := 100) (v := true) (by omega) (fun i hi => by have := hz2 i hi; omega) ⟨fun _ => ⟨hz2, by omega⟩, fun _ => rfl⟩ w_ h)
  have nl : n ≤ len2 := by have := (all_len (firstR R len2)).2; rw [ea, firstR_len] at this; rw [← hn]; exact this
  have A1 := Lib.hid (fun w_ (h : RowS .i64 w_ A2 len2 B C R) => AC'.out A2 len2 cap2 B C R n l bad hs2 (by omega) hzr ea hn w_ h)
  have A3 := Lib.hid (fun w_ (h : RowS .i64 w_ A2 k B C R) => AC'.out A2 k cap2 B C R nk lk bk ⟨by have := hs2.1; omega, hs2.2.1, hs2.2.2⟩ (by omega) (fun i hi => hzr i (by omega)) ek hnk w_ h)
  have HK := Lib.hid (And.intro hk (show k ≤ cap2 from by have := hs2.1; omega))
  have hkI : (k : Int) ≤ (cap2 : Int) := by have := hs2.1; omega
  have hk0 : (0 : Int) ≤ (k : Int) := by omega
  have hk2 : k ≤ cap2 := by have := hs2.1; omega
  have hc2_ : cap2 ≤ 9223372036854775807 := hs2.2.1
  have ldv : ((len2 : Int) + 1 == 0) = false := by simp; omega
  have ldv2 : ¬ (len2 : Int) + 1 = 0 := by omega
  have HB := Lib.hid hb
  have HN := Lib.hid hn
  have HI := Lib.hid hzr
  have HP := Lib.hid (show lk.length = nk ∧ l.take nk = lk ∧ bk.length = k ∧ bad.take k = bk from ⟨hnk, hp⟩)
  have HG := Lib.hid (show (okJ bad len2).length = n ∧ allV ((okJ bad len2).map R) = (l, List.replicate n 0) from ⟨hgood.1, by have q := hgood.2; rw [hgood.1] at q; exact q⟩)
  have HS := Lib.hid hr2
  clear hr2 hz2 hs2 hzr ea ek hn hnk hb hp hgood hk
  go_enter Try.func7, Try.ntmps7
  go_wp2_with fail
  refine (AW'.out _).mono ?_
  rintro e w20 ⟨rfl, k20⟩
  go_wp2_with fail
  refine (FW.out _ (HS.out.kept (by (repeat (first | with_reducible exact Kept.refl _ | with_reducible apply Kept.drew | with_reducible apply Kept.alloc | ((with_reducible apply Kept.set); focus (simp <;> omega)) | ((with_reducible apply Kept.via); focus with_reducible assumption)))))).mono ?_
  rintro e w21 ⟨rfl, k21⟩
  go_wp2_with fail
  refine (A1.out _ (HS.out.kept (by (repeat (first | with_reducible exact Kept.refl _ | with_reducible apply Kept.drew | with_reducible apply Kept.alloc | ((with_reducible apply Kept.set); focus (simp <;> omega)) | ((with_reducible apply Kept.via); focus with_reducible assumption)))))).mono ?_
  rintro e w22 ⟨B1, c1, B2, c2, rfl, s1, s2, r1, r2, _, _, k22⟩
  have R1 := Lib.hid r1
  have R2 := Lib.hid r2
  have S1 := Lib.hid s1
  have S2 := Lib.hid s2
  clear r1 r2 s1 s2
  go_wp2_with fail
  refine (A3.out _ (RowS.less (HS.out.kept (by (repeat (first | with_reducible exact Kept.refl _ | with_reducible apply Kept.drew | with_reducible apply Kept.alloc | ((with_reducible apply Kept.set); focus (simp <;> omega)) | ((with_reducible apply Kept.via); focus with_reducible assumption))))) HK.out.1)).mono ?_
  rintro e w23 ⟨B3, c3, B4, c4, rfl, s3, s4, r3, r4, _, _, k23⟩
  have R19 := Lib.hid (R1.out.kept (show Kept w22 w23 from (by (repeat (first | with_reducible exact Kept.refl _ | with_reducible apply Kept.drew | with_reducible apply Kept.alloc | ((with_reducible apply Kept.set); focus (simp <;> omega)) | ((with_reducible apply Kept.via); focus with_reducible assumption))))))
  have R29 := Lib.hid (R2.out.kept (show Kept w22 w23 from (by (repeat (first | with_reducible exact Kept.refl _ | with_reducible apply Kept.drew | with_reducible apply Kept.alloc | ((with_reducible apply Kept.set); focus (simp <;> omega)) | ((with_reducible apply Kept.via); focus with_reducible assumption))))))
  have R39 := Lib.hid r3
  have R49 := Lib.hid r4
  have S3 := Lib.hid s3
  have S4 := Lib.hid s4
  have k0 : Kept w w23 := (by (repeat (first | with_reducible exact Kept.refl _ | with_reducible apply Kept.drew | with_reducible apply Kept.alloc | ((with_reducible apply Kept.set); focus (simp <;> omega)) | ((with_reducible apply Kept.via); focus with_reducible assumption))))
  have HS9 := Lib.hid (HS.out.kept k0)
  clear r3 r4 s3 s4 R1 R2 HS
  generalize w23 = w9 at *
  obtain ⟨isl, h0_, h1_, h2_, h3_⟩ := info_parts infoSl
  obtain ⟨g0, hg⟩ : ∃ g0, w9.heap.size = g0 := ⟨_, rfl⟩
  go_wp2
  go_loopw [11, 12] (fun s11 s12 wr => ∃ j : Nat, j ≤ len2 ∧ s12 = .int .i64 j ∧ wr.ownsRow g0 24 1 s11 (okJ bad j).length ((okJ bad j).map (fun i => Value.slice (B i) (R i).length (C i))) ∧ Kept w9 wr) (fun _ s12 _ => len2 - (intOf s12).toNat)
  case atStart => exact ⟨0, Nat.zero_le _, rfl, World.ownsRow_nil _ _ _ _, Kept.refl _⟩
  case round =>
    obtain ⟨j, hj, rfl, own, kw⟩ := hrel
    have OW := Lib.hid own
    have jl := okJ_len bad j
    clear own
    by_cases hlt : j < len2
    · have hltI : (j : Int) < (len2 : Int) := by omega
      have hjb : j < bad.length := by have := HB.out; omega
      have NX := Lib.hid (okJ_next bad j)
      obtain ⟨b1, o1, rfl, hc1⟩ := (R29.out.kept kw) (by omega)
      have c1_ : wr.cell? ⟨b1, o1 + j, none⟩ = some (.int .i64 (bad.getD j 0)) := hc1 j hjb
      obtain ⟨x, ex⟩ : ∃ x, bad.getD j 0 = x := ⟨_, rfl⟩
      rw [ex] at c1_ NX
      obtain ⟨b2, o2, rfl, hc2⟩ := (HS9.out.1.kept kw) (by omega)
      have c2_ : wr.cell? ⟨b2, o2 + j, none⟩ = some (.slice (B j) (R j).length (C j)) := hc2 j hlt
      clear hc1 hc2 ex
      generalize okJ bad j = Jj at *
      by_cases hx : x = 0
      · have d0 : (x == 0) = true := by simp [hx]
        have NX2 := Lib.hid (show okJ bad (j + 1) = Jj ++ [j] from by rw [NX.out, if_pos hx])
        clear hx
        go_wp2_with (at_builtin; refine wpList_append_kept rfl _ _ 25 rfl w9 g0 hg 24 isl (.slice none 0 0) 1 24 Try.underlying25 h0_ h1_ h2_ h3_ rfl (by decide) _ _ _ rfl (World.ownsRow.alloc OW.out _) (Kept.alloc kw _ _) ⟨_, 0, none⟩ 1 1 [.slice (B j) (R j).length (C j)] rfl rfl (cells_one_new _ _ _) (by intro u hu; simp at hu; rcases hu with rfl; rfl) (by decide) (by unfold maxLen; omega) (by omega) ?_)
        intro v3 w3 own3 k3 g3 z3 o3
        have OW3 := Lib.hid (show w3.ownsRow g0 24 1 v3 (okJ bad (j + 1)).length ((okJ bad (j + 1)).map (fun i => Value.slice (B i) (R i).length (C i))) from by rw [NX2.out, List.length_append, List.map_append]; exact own3)
        clear own3 g3 z3 o3 c1_ c2_
        go_wp2
        go_roundw
        case rel => exact ⟨j + 1, by omega, by go_num, OW3.out, k3⟩
        case measure => simp [intOf]; omega
      · have d0 : (x == 0) = false := by simp [hx]
        have OW3 := Lib.hid (show wr.ownsRow g0 24 1 _ (okJ bad (j + 1)).length ((okJ bad (j + 1)).map (fun i => Value.slice (B i) (R i).length (C i))) from by rw [NX.out, if_neg hx]; exact OW.out)
        clear hx OW
        go_wp2
        go_roundw
        case rel => exact ⟨j + 1, by omega, by go_num, OW3.out, kw⟩
        case measure => simp [intOf]; omega
    · obtain rfl : j = len2 := by omega
      have hJ := Lib.hid (show ∀ i ∈ okJ bad j, i < j from fun i hi => okJ_lt hi)
      obtain ⟨J, eJ⟩ : ∃ J, okJ bad j = J := ⟨_, rfl⟩
      rw [eJ] at OW hJ
      have GJ := Lib.hid (show J.length = n ∧ allV (firstR (fun i => R (J.getD i 0)) n) = (l, List.replicate n 0) from by
        have q := HG.out
        rw [eJ] at q
        refine ⟨q.1, ?_⟩
        have f : firstR (fun i => R (J.getD i 0)) n = J.map R := by rw [← q.1]; exact firstR_list R J
        rw [f]; exact q.2)
      rw [GJ.out.1] at OW
      obtain ⟨AG, cG, rfl, sG, rG⟩ := own_rowS OW.out
      have hJi : ∀ i, i < n → J.getD i 0 < j := fun i hi => hJ.out _ (getD_mem (by rw [GJ.out.1]; exact hi))
      have RG := Lib.hid (show RowS .i64 wr AG n (fun i => B (J.getD i 0)) (fun i => C (J.getD i 0)) (fun i => R (J.getD i 0)) from ⟨rG _ (fun i hi => by
        have e : J[i]? = some (J.getD i 0) := by simp [List.getD, show i < J.length by rw [GJ.out.1]; exact hi]
        rw [List.getElem?_map, e]; rfl), fun i hi => ⟨(HS9.out.2 _ (hJi i hi)).1, (HS9.out.2 _ (hJi i hi)).2.kept kw⟩⟩)
      have A5 := Lib.hid (fun w_ (h : RowS .i64 w_ AG n (fun i => B (J.getD i 0)) (fun i => C (J.getD i 0)) (fun i => R (J.getD i 0))) => AC'.out AG n cG _ _ _ n l (List.replicate n 0) sG (by omega) (fun i hi x hx => HI.out _ (hJi i hi) x hx) GJ.out.2 HN.out w_ h)
      clear rG OW eJ jl
      go_wp2_with fail
      refine (A5.out _ RG.out).mono ?_
      rintro e w50 ⟨B5, c5, B6, c6, rfl, _, _, r5, _, _, _, k50⟩
      have R5 := Lib.hid r5
      clear r5
      have ks := Kept.trans kw k50
      have P1 := Lib.hid (fun w_ (kk : Kept w50 w_) => refSame20_ok (cap := c3) (cap2 := c1) HP.out.1 (by omega) w_ (R39.out.kept (Kept.trans ks kk)) (by have q := rowV_take (R19.out.kept (Kept.trans ks kk)) (n := nk) (by have := HN.out; omega); rw [HP.out.2.1] at q; exact q))
      have P2 := Lib.hid (fun w_ (kk : Kept w50 w_) => same20_use HP.out.2.2.1 S4.out ⟨by have := S2.out.1; have := HK.out.1; omega, S2.out.2.1, S2.out.2.2⟩ (by have := HK.out.1; omega) w_ (R49.out.kept (Kept.trans ks kk)) (by have q := rowK_take (R29.out.kept (Kept.trans ks kk)) (n := k) (by have := HB.out; have := HK.out.1; omega); rw [HP.out.2.2.2] at q; exact q))
      have P3 := Lib.hid (fun w_ (kk : Kept w50 w_) => refSame20_ok (cap := c5) (cap2 := c1) HN.out (by omega) w_ (R5.out.kept kk) (R19.out.kept (Kept.trans ks kk)))
      have z0 : (0 : Int) ≤ (nk : Int) := by omega
      have z1 : (nk : Int) ≤ (c1 : Int) := by have := S1.out.1; omega
      have z2 : (0 : Int) ≤ (k : Int) := by omega
      have z3 : (k : Int) ≤ (c2 : Int) := by have := S2.out.1; have := HK.out.1; omega
      have z4 : decide ((nk : Int) ≤ (n : Int)) = true := decide_eq_true (by omega)
      have z5 : nk ≤ c1 := by omega
      have z6 : k ≤ c2 := by omega
      have z7 : c1 ≤ 9223372036854775807 := S1.out.2.1
      have z8 : c2 ≤ 9223372036854775807 := S2.out.2.1
      go_wp2_with fail
      refine (P1.out _ (Kept.refl _)).mono ?_
      rintro e w51 ⟨rfl, k51⟩
      go_wp2_with fail
      refine (P2.out _ k51).mono ?_
      rintro e w52 ⟨rfl, k52⟩
      go_wp2_with fail
      refine (P3.out _ (Kept.trans k51 k52)).mono ?_
      rintro e w53 ⟨rfl, k53⟩
      go_wp2
      go_ret
      exact ⟨rfl, Kept.trans k0 (Kept.trans ks (Kept.trans (Kept.trans k51 k52) k53))⟩
theorem eventParts_walk (CC : EvCheckC) (DC : EvDecC) (NC : EvEncC) (AC : EvAllC) {A2 : Option Addr} {len2 cap2 : Nat} {B : Nat → Option Addr} {C : Nat → Nat} {R : Nat → List Int} {cut : Int} (w : World) (c0 : 0 ≤ cut) (c1 : cut ≤ 255) (hs2 : SliceOk A2 len2 cap2) (hzr : ∀ i, i < len2 → ∀ x ∈ R i, In64 x) (hr2 : RowS .i64 w A2 len2 B C R) : Calls Try.prog 7 #[.slice A2 len2 cap2, .int .u8 cut] w fun e w' => e = .returned (.bool true) ∧ Kept w w' := by
  by_cases yes : (∀ i, i < len2 → (R i).length ≤ 10) ∧ (len2 : Int) ≤ 100
  · have e9 : cut.tmod ((len2 : Int) + 1) = cut % ((len2 : Int) + 1) := Int.tmod_eq_emod_of_nonneg c0
    have r0 := Int.emod_nonneg cut (show ((len2 : Int) + 1) ≠ 0 by omega)
    have r1 := Int.emod_lt_of_pos cut (show 0 < ((len2 : Int) + 1) by omega)
    obtain ⟨k, hkk⟩ : ∃ k : Nat, cut.tmod ((len2 : Int) + 1) = (k : Int) := ⟨(cut % ((len2 : Int) + 1)).toNat, by rw [e9]; omega⟩
    have kl : k ≤ len2 := by omega
    have pv := aV_pre R len2 kl
    exact parts20_all CC DC NC AC (l := aV R len2) (bad := aB R len2) (lk := aV R k) (bk := aB R k) (by omega) yes.1 c0 c1 hkk kl hs2 hzr rfl rfl rfl rfl pv.1 (aB_len R len2) ⟨pv.2, aB_len R k, aB_pre R len2 kl⟩ ⟨good_len R len2, good_all R len2 len2 (Nat.le_refl _)⟩ w hr2
  · exact parts20_many CC DC NC AC (by have := hs2.1; have := hs2.2.1; omega) (fun i hi => by have := (hr2.2 i hi).1.1; have := (hr2.2 i hi).1.2.1; omega) yes w hr2
end Go.Proofs.Ytbpdimogigcacaa
