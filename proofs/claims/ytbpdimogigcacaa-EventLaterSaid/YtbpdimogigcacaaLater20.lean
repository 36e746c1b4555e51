/-
  The walk of EventLater: it answers true, if the calls do what they are to do.
-/
import Derived.Test.YtbpdimogigcacaaAwake20
import Derived.Test.YtbpdimogigcacaaShift20
import Derived.Test.YtbpdimogigcacaaParts20
import Derived.Test.YtbpdimogigcacaaAppRow
import Derived.OwnWalk
import Derived.Laws.OwnMore
import Derived.Deep.RegionHeld3
import Derived.Deep.DeepCutAuto
namespace Go.Proofs.Ytbpdimogigcacaa
open Go.RowKit Go.BigFrame
set_option linter.unusedVariables false

theorem infoInt20 : (Try.prog.info? 3).map (fun i => (i.zero, i.size, i.bytes)) = some (some (.int .i64 0), 1, 8) := by kernel_rfl
theorem rowAt_map {w : World} {A : Option Addr} {l : List Int} (h : RowK .i64 w A l) : RowAt w A l.length (fun j => (l.map (Value.int .i64)).getD j undef) := fun h0 => by
  obtain ⟨b, off, e, hc⟩ := h h0
  refine ⟨b, off, e, fun i hi => ?_⟩
  rw [hc i hi]
  simp [List.getD, hi]
/-- The later ones, as they are made: where each lies is D, its room Cc. -/
def LatD (w : World) (base : Nat) (v : Value) (j : Nat) (d : Int) (R : Nat → List Int) (D : Nat → Option Addr) (Cc : Nat → Nat) : Prop :=
  w.ownsRow base 24 1 v j ((List.range j).map fun i => Value.slice (D i) (R i).length (Cc i)) ∧ ∀ i, i < j → SliceOk (D i) (R i).length (Cc i) ∧ RowK .i64 w (D i) (shL d (R i)) ∧ ∀ a, D i = some a → a.block < w.heap.size ∧ v.ownBlock ≠ some a.block
theorem LatD.kept {w w' : World} {base j : Nat} {v : Value} {d : Int} {R : Nat → List Int} {D : Nat → Option Addr} {Cc : Nat → Nat} (h : LatD w base v j d R D Cc) (k : Kept w w') : LatD w' base v j d R D Cc :=
  ⟨own_kept h.1 k, fun i hi => ⟨(h.2 i hi).1, (h.2 i hi).2.1.kept k, fun a ha => ⟨Nat.lt_of_lt_of_le ((h.2 i hi).2.2 a ha).1 k.2.size, ((h.2 i hi).2.2 a ha).2⟩⟩⟩
theorem lat_next {w3 w4 : World} {base j m : Nat} {v v4 : Value} {d : Int} {R : Nat → List Int} {D : Nat → Option Addr} {Cc : Nat → Nat} {Ax : Option Addr} {cx : Nat} {oc : Array Value} {ot : TypeId} (h : LatD w3 base v j d R D Cc) (sx : SliceOk Ax (R j).length cx) (rx : RowK .i64 w3 Ax (shL d (R j))) (nx : ∀ a, Ax = some a → a.block < w3.heap.size ∧ v.ownBlock ≠ some a.block)
    (own4 : w4.ownsRow base 24 1 v4 (j + 1) ((List.range j).map (fun i => Value.slice (D i) (R i).length (Cc i)) ++ [.slice Ax (R j).length cx])) (g4 : (w3.alloc (.cells oc ot)).grownBy w4 v.ownBlock) (o4 : v4.ownBlock = v.ownBlock ∨ v4.ownBlock = some m) (hm : w3.heap.size ≤ m) :
    LatD w4 base v4 (j + 1) d R (fun i => if i = j then Ax else D i) (fun i => if i = j then cx else Cc i) := by
  have sz : w3.heap.size ≤ w4.heap.size := by have := g4.size; simp at this; omega
  refine ⟨?_, fun i hi => ?_⟩
  · have e : (List.range (j + 1)).map (fun i => Value.slice (if i = j then Ax else D i) (R i).length (if i = j then cx else Cc i)) = (List.range j).map (fun i => Value.slice (D i) (R i).length (Cc i)) ++ [.slice Ax (R j).length cx] := by
      rw [List.range_succ, List.map_append]
      congr 1
      · apply List.map_congr_left
        intro i hi
        have := List.mem_range.1 hi
        rw [if_neg (by omega), if_neg (by omega)]
      · simp
    rw [e]; exact own4
  · have apart : ∀ b, b < w3.heap.size → v.ownBlock ≠ some b → v4.ownBlock ≠ some b := fun b hb hn => by
      rcases o4 with q | q <;> rw [q]
      · exact hn
      · intro z; have := Option.some.inj z; omega
    by_cases e : i = j
    · subst e
      simp only [if_true]
      exact ⟨sx, (RowK.kept rx ((Kept.refl _).alloc oc ot)).grown g4 (fun a ha => (nx a ha).2), fun a ha => ⟨Nat.lt_of_lt_of_le (nx a ha).1 sz, apart _ (nx a ha).1 (nx a ha).2⟩⟩
    · have q := h.2 i (by omega)
      simp only [if_neg e]
      exact ⟨q.1, (RowK.kept q.2.1 ((Kept.refl _).alloc oc ot)).grown g4 (fun a ha => (q.2.2 a ha).2), fun a ha => ⟨Nat.lt_of_lt_of_le (q.2.2 a ha).1 sz, apart _ (q.2.2 a ha).1 (q.2.2 a ha).2⟩⟩
set_option maxRecDepth 100000 in
set_option maxHeartbeats 6400000 in
theorem later20_many (CC : EvCheckC) (DC : EvDecC) (NC : EvEncC) (AC : EvAllC) {A2 : Option Addr} {len2 cap2 : Nat} {B : Nat → Option Addr} {C : Nat → Nat} {R : Nat → List Int} {d : Int} (hl2 : len2 ≤ 9223372036854775807) (hz2 : ∀ i, i < len2 → (R i).length ≤ 9223372036854775807) (no : ¬ ((∀ i, i < len2 → (R i).length ≤ 10) ∧ (len2 : Int) ≤ 100))  (w : World) (hr2 : RowS .i64 w A2 len2 B C R) : Calls Try.prog 8 #[.slice A2 len2 cap2, .int .u32 d] w fun e w' => e = .returned (.bool true) ∧ Kept w w' := by
  have CC' := Lib.hid CC
  have DC' := Lib.hid DC
  have NC' := Lib.hid NC
  have AC' := Lib.hid AC
  have AW' := Lib.hid (fun w => awake20 CC DC NC AC w)
  clear CC DC NC AC
  have FW := Lib.hid (fun w_ (h : RowS .i64 w_ A2 len2 B C R) => refFew20_ok (cap := cap2) (m := 100) (v := false) (by omega) hz2 (by simp [no]) w_ h)
  have HS := Lib.hid hr2
  clear hr2 hz2 no
  go_enter Try.func8, Try.ntmps8
  go_wp2_with fail
  refine (AW'.out _).mono ?_
  rintro e w20 ⟨rfl, k20⟩
  go_wp2_with fail
  refine (FW.out _ (HS.out.kept (by (repeat (first | with_reducible exact Kept.refl _ | with_reducible apply Kept.drew | with_reducible apply Kept.alloc | ((with_reducible apply Kept.set); focus (simp <;> omega)) | ((with_reducible apply Kept.via); focus with_reducible assumption)))))).mono ?_
  rintro e w21 ⟨rfl, k21⟩
  go_wp2
  go_ret
  exact ⟨rfl, (by (repeat (first | with_reducible exact Kept.refl _ | with_reducible apply Kept.drew | with_reducible apply Kept.alloc | ((with_reducible apply Kept.set); focus (simp <;> omega)) | ((with_reducible apply Kept.via); focus with_reducible assumption))))⟩
set_option maxRecDepth 100000 in
set_option maxHeartbeats 6400000 in
theorem later20_all (CC : EvCheckC) (DC : EvDecC) (NC : EvEncC) (AC : EvAllC) {A2 : Option Addr} {len2 cap2 : Nat} {B : Nat → Option Addr} {C : Nat → Nat} {R : Nat → List Int} {d : Int} {n : Nat} {l : List Ev} {bad : List Int} (hl2 : len2 ≤ 100) (hz2 : ∀ i, i < len2 → (R i).length ≤ 10) (d0 : 0 ≤ d) (d1 : d ≤ 4294967295) (hs2 : SliceOk A2 len2 cap2) (hzr : ∀ i, i < len2 → ∀ x ∈ R i, In64 x) (ea : allV (firstR R len2) = (l, bad)) (hn : l.length = n) (hb : bad.length = len2)  (w : World) (hr2 : RowS .i64 w A2 len2 B C R) : Calls Try.prog 8 #[.slice A2 len2 cap2, .int .u32 d] w fun e w' => e = .returned (.bool true) ∧ Kept w w' := by
  have CC' := Lib.hid CC
  have DC' := Lib.hid DC
  have NC' := Lib.hid NC
  have AC' := Lib.hid AC
  have AW' := Lib.hid (fun w => awake20 CC DC NC AC w)
  clear CC DC NC AC
  have FW := Lib.hid (fun w_ (h : RowS .i64 w_ A2 len2 B C R) => refFew20_ok (cap := cap2) (m := 100) (v := true) (by omega) (fun i hi => by have := hz2 i hi; omega) ⟨fun _ => ⟨hz2, by omega⟩, fun _ => rfl⟩ w_ h)
  have nl : n ≤ len2 := by have := (all_len (firstR R len2)).2; rw [ea, firstR_len] at this; rw [← hn]; exact this
  have A1 := Lib.hid (fun w_ (h : RowS .i64 w_ A2 len2 B C R) => AC'.out A2 len2 cap2 B C R n l bad hs2 (by omega) hzr ea hn w_ h)
  have HB := Lib.hid hb
  have HN := Lib.hid hn
  have HI := Lib.hid hzr
  have HE := Lib.hid ea
  have HO := Lib.hid (show OkV l from by have := all_ok (firstR R len2); rw [ea] at this; exact this)
  have HS := Lib.hid hr2
  clear hr2 hs2 hzr ea hn hb
  go_enter Try.func8, Try.ntmps8
  go_wp2_with fail
  refine (AW'.out _).mono ?_
  rintro e w20 ⟨rfl, k20⟩
  go_wp2_with fail
  refine (FW.out _ (HS.out.kept (by (repeat (first | with_reducible exact Kept.refl _ | with_reducible apply Kept.drew | with_reducible apply Kept.alloc | ((with_reducible apply Kept.set); focus (simp <;> omega)) | ((with_reducible apply Kept.via); focus with_reducible assumption)))))).mono ?_
  rintro e w21 ⟨rfl, k21⟩
  have k0 : Kept w w21 := (by (repeat (first | with_reducible exact Kept.refl _ | with_reducible apply Kept.drew | with_reducible apply Kept.alloc | ((with_reducible apply Kept.set); focus (simp <;> omega)) | ((with_reducible apply Kept.via); focus with_reducible assumption))))
  have HS9 := Lib.hid (HS.out.kept k0)
  clear HS
  generalize w21 = w9 at *
  obtain ⟨isl, h0_, h1_, h2_, h3_⟩ := info_parts infoSl
  obtain ⟨ii, i0_, i1_, i2_, i3_⟩ := info_parts infoInt20
  obtain ⟨g0, hg⟩ : ∃ g0, w9.heap.size = g0 := ⟨_, rfl⟩
  go_wp2
  go_loopw [6, 7] (fun s6 s7 wr => ∃ (j : Nat) (D : Nat → Option Addr) (Cc : Nat → Nat), j ≤ len2 ∧ s7 = .int .i64 j ∧ (∀ i, i < j → GoodL (R i)) ∧ LatD wr g0 s6 j d R D Cc ∧ Kept w9 wr) (fun _ s7 _ => len2 - (intOf s7).toNat)
  case atStart => exact ⟨0, fun _ => none, fun _ => 0, Nat.zero_le _, rfl, fun i hi => absurd hi (by omega), ⟨World.ownsRow_nil _ _ _ _, fun i hi => absurd hi (by omega)⟩, Kept.refl _⟩
  case round =>
    obtain ⟨j, D, Cc, hj, rfl, hg_, hla, kw⟩ := hrel
    have GD := Lib.hid hg_
    have LA := Lib.hid hla
    clear hg_ hla
    by_cases hlt : j < len2
    · have hltI : (j : Int) < (len2 : Int) := by omega
      obtain ⟨b2, o2, rfl, hc2⟩ := (HS9.out.1.kept kw) (by omega)
      have c2_ : wr.cell? ⟨b2, o2 + j, none⟩ = some (.slice (B j) (R j).length (C j)) := hc2 j hlt
      have RJ := Lib.hid ((HS9.out.2 j hlt).2.kept kw)
      have hz := hz2 j hlt
      have ltb := cell_lt c2_
      dsimp only at ltb
      clear hc2
      go_wp2_with (at_builtin; refine wpList_append_row (by rfl) _ _ 24 rfl wr _ rfl 3 ii (.int .i64 0) 8 Try.underlying24 i0_ i1_ i2_ i3_ rfl _ 0 [] rfl (own_empty wr _ (Nat.le_refl _) 3) ((Kept.refl _).alloc _ _) (B j) (R j).length (C j) ((R j).map (.int .i64)) rfl (by simp) (rowAt_map (RJ.out.kept ((Kept.refl _).alloc _ _))) (by intro u hu; simp at hu; obtain ⟨x, _, rfl⟩ := hu; rfl) (by unfold maxLen; omega) (by omega) ?_)
      intro vx w2 ownx k2 g2 z2 o2_
      have OX := Lib.hid (show w2.ownsRow wr.heap.size 3 1 vx (R j).length ((R j).map (.int .i64)) from by simpa using ownx)
      clear ownx g2 z2 o2_ c2_
      obtain ⟨Ax, cx, ex⟩ := own_form OX.out
      subst ex
      generalize hq : (R j).length = q at *
      have HQ := Lib.hid hq
      by_cases hl1 : 1 < q
      · have d1_ : decide ((1 : Int) < (q : Int)) = true := decide_eq_true (by omega)
        have d2_ : (1 : Int) < (q : Int) := by omega
        obtain ⟨gx, rfl⟩ : ∃ gx, Ax = some ⟨gx, 0, none⟩ := by
          rcases OX.out.2 with ⟨_, h0⟩ | ⟨g, cap, cur, e, _⟩
          · omega
          · cases e; exact ⟨g, rfl⟩
        obtain ⟨x1, ex1⟩ : ∃ x1, (R j).getD 1 0 = x1 := ⟨_, rfl⟩
        have y1 : w2.cell? ⟨gx, 1, none⟩ = some (.int .i64 x1) := by
          have c := OX.out.cellAt 1 (by omega)
          rw [c, ← ex1]
          simp [List.getD, show 1 < (R j).length by omega]
        have f1 : w2.frozen? ⟨gx, 1, none⟩ = false := OX.out.frozenAt 1
        have gxw := (OX.out.lt gx rfl).1
        by_cases n0 : x1 < 0
        · have e0 : decide (x1 < 0) = true := decide_eq_true n0
          go_wp2
          go_ret
          exact ⟨rfl, Kept.trans k0 (Kept.trans kw k2)⟩
        · have e0 : decide (x1 < 0) = false := by simp; omega
          by_cases n1 : 4294967296 ≤ x1
          · have e1 : decide (4294967296 ≤ x1) = true := decide_eq_true n1
            go_wp2
            go_ret
            exact ⟨rfl, Kept.trans k0 (Kept.trans kw k2)⟩
          · have e1 : decide (4294967296 ≤ x1) = false := by simp; omega
            have GJ := Lib.hid (show GoodL (R j) from fun _ => by rw [ex1]; omega)
            go_upto_region 13 with fail
            generalize hW : World.setCell w2 ⟨gx, 1, none⟩ (.int .i64 (x1 + d)) = w3
            have k3 : Kept wr w3 := by subst hW; exact k2.setCell (a := ⟨gx, 1, none⟩) gxw _
            have OX3 := Lib.hid (show w3.ownsRow wr.heap.size 3 1 (.slice (some ⟨gx, 0, none⟩) q cx) q ((shL d (R j)).map (.int .i64)) from by
              subst hW
              have s := (OX.out.stored 1 (.int .i64 (x1 + d))).1
              have e : shL d (R j) = (R j).set 1 (x1 + d) := by unfold shL; rw [if_pos (by omega), ex1]
              rw [e, List.map_set]; exact s)
            clear hW y1 f1 OX k2 hl1 ex1
            obtain ⟨Bx, cb, eb, sx, rx, nx⟩ := own_rowK (by rw [shL_len]; exact HQ.out) OX3.out
            cases eb
            have SX := Lib.hid sx
            have RX := Lib.hid rx
            have NX := Lib.hid nx
            have LA3 := Lib.hid (LA.out.kept k3)
            have kw3 := Kept.trans kw k3
            clear sx rx nx OX3
            go_wp2_with (at_builtin; refine wpList_append_kept rfl _ _ 25 rfl w9 g0 hg 24 isl (.slice none 0 0) 1 24 Try.underlying25 h0_ h1_ h2_ h3_ rfl (by decide) _ _ _ rfl (World.ownsRow.alloc LA3.out.1 _) (Kept.alloc kw3 _ _) ⟨_, 0, none⟩ 1 1 [.slice (some ⟨gx, 0, none⟩) q cx] rfl rfl (cells_one_new _ _ _) (by intro u hu; simp at hu; rcases hu with rfl; rfl) (by decide) (by unfold maxLen; omega) (by omega) ?_)
            intro v4 w4 own4 k4 g4 z4 o4
            have LT := LA3.out.1.lt
            have LW_ := LA.out.1.lt
            have L4 := Lib.hid (lat_next (Ax := (some ⟨gx, 0, none⟩)) (cx := cx) LA3.out (by rw [HQ.out]; exact SX.out) RX.out (fun a ha => ⟨(NX.out a ha).2, fun z => by have := (LW_ _ z).2; have := (NX.out a ha).1; omega⟩) (by rw [HQ.out]; exact own4) g4 o4 (by simp))
            have GD2 := Lib.hid (show ∀ i, i < j + 1 → GoodL (R i) from fun i hi => by
              rcases (show i < j ∨ i = j by omega) with g | rfl
              · exact GD.out i g
              · exact GJ.out)
            clear own4 g4 z4 o4 LT LW_
            go_wp2
            go_roundw
            case rel => exact ⟨j + 1, _, _, by omega, by go_num, GD2.out, L4.out, k4⟩
            case measure => simp [intOf]; omega
      · have d1_ : decide ((1 : Int) < (q : Int)) = false := by simp; omega
        have d2_ : ¬ (1 : Int) < (q : Int) := by omega
        have GJ := Lib.hid (show GoodL (R j) from fun z => absurd z (by omega))
        have k3 := k2
        have OX3 := Lib.hid (show w2.ownsRow wr.heap.size 3 1 (.slice Ax q cx) q ((shL d (R j)).map (.int .i64)) from by
          have e : shL d (R j) = R j := by unfold shL; rw [if_neg (by omega)]
          rw [e]; exact OX.out)
        clear OX k2 hl1
        obtain ⟨Bx, cb, eb, sx, rx, nx⟩ := own_rowK (by rw [shL_len]; exact HQ.out) OX3.out
        cases eb
        have SX := Lib.hid sx
        have RX := Lib.hid rx
        have NX := Lib.hid nx
        have LA3 := Lib.hid (LA.out.kept k3)
        have kw3 := Kept.trans kw k3
        clear sx rx nx OX3
        go_wp2_with (at_builtin; refine wpList_append_kept rfl _ _ 25 rfl w9 g0 hg 24 isl (.slice none 0 0) 1 24 Try.underlying25 h0_ h1_ h2_ h3_ rfl (by decide) _ _ _ rfl (World.ownsRow.alloc LA3.out.1 _) (Kept.alloc kw3 _ _) ⟨_, 0, none⟩ 1 1 [.slice Ax q cx] rfl rfl (cells_one_new _ _ _) (by intro u hu; simp at hu; rcases hu with rfl; rfl) (by decide) (by unfold maxLen; omega) (by omega) ?_)
        intro v4 w4 own4 k4 g4 z4 o4
        have LT := LA3.out.1.lt
        have LW_ := LA.out.1.lt
        have L4 := Lib.hid (lat_next (Ax := Ax) (cx := cx) LA3.out (by rw [HQ.out]; exact SX.out) RX.out (fun a ha => ⟨(NX.out a ha).2, fun z => by have := (LW_ _ z).2; have := (NX.out a ha).1; omega⟩) (by rw [HQ.out]; exact own4) g4 o4 (by simp))
        have GD2 := Lib.hid (show ∀ i, i < j + 1 → GoodL (R i) from fun i hi => by
          rcases (show i < j ∨ i = j by omega) with g | rfl
          · exact GD.out i g
          · exact GJ.out)
        clear own4 g4 z4 o4 LT LW_
        go_wp2
        go_roundw
        case rel => exact ⟨j + 1, _, _, by omega, by go_num, GD2.out, L4.out, k4⟩
        case measure => simp [intOf]; omega
    · obtain rfl : j = len2 := by omega
      have SA := shift_all d0 d1 (R := R) j GD.out
      have EA := Lib.hid (show allV (firstR (fun i => shL d (R i)) j) = (l.map (shV d), bad) from by
        have q1 := SA.1
        have q2 := SA.2
        unfold aV at q1
        unfold aB at q2
        rw [HE.out] at q1 q2
        exact Prod.ext q1 q2)
      obtain ⟨AG, cG, eG, sG, rG⟩ := own_rowS LA.out.1
      subst eG
      have RG := Lib.hid (show RowS .i64 wr AG j D Cc (fun i => shL d (R i)) from ⟨by
        have r := rG (fun i => .slice (D i) (shL d (R i)).length (Cc i)) (fun i hi => by rw [shL_len]; simp [hi])
        exact r, fun i hi => ⟨by rw [shL_len]; exact (LA.out.2 i hi).1, (LA.out.2 i hi).2.1⟩⟩)
      have A5 := Lib.hid (fun w_ (h : RowS .i64 w_ AG j D Cc (fun i => shL d (R i))) => AC'.out AG j cG _ _ _ n (l.map (shV d)) bad sG (by omega) (fun i hi => shL_in d0 d1 (GD.out i hi) (HI.out i hi)) EA.out (by rw [List.length_map]; exact HN.out) w_ h)
      clear rG LA SA
      go_wp2_with fail
      refine (A1.out _ (HS9.out.kept kw)).mono ?_
      rintro e w50 ⟨B1, c1, B2, c2, rfl, _, s2, r1, r2, _, _, k50⟩
      have R1 := Lib.hid r1
      have R2 := Lib.hid r2
      have S2 := Lib.hid s2
      clear r1 r2 s2
      go_wp2_with fail
      refine (A5.out _ (RG.out.kept k50)).mono ?_
      rintro e w51 ⟨B5, c5, B6, c6, rfl, _, s6, r5, r6, _, _, k51⟩
      have R5 := Lib.hid r5
      have R6 := Lib.hid r6
      have S6 := Lib.hid s6
      have R1b := Lib.hid (R1.out.kept k51)
      have R2b := Lib.hid (R2.out.kept k51)
      have kz := Kept.trans k0 (Kept.trans kw (Kept.trans k50 k51))
      clear r5 r6 s6 R1 R2 RG A5 k50 kw
      go_wp2
      go_loopw [13] (fun s13 wr => ∃ i : Nat, i ≤ n ∧ s13 = .int .i64 i ∧ Kept w51 wr) (fun s13 _ => n - (intOf s13).toNat)
      case atStart => exact ⟨0, Nat.zero_le _, rfl, Kept.refl _⟩
      case round =>
        obtain ⟨i, hi, rfl, kv⟩ := hrel
        by_cases hin : i < n
        · have hinI : (i : Int) < (n : Int) := by omega
          have hi0 : (0 : Int) ≤ (i : Int) := by omega
          have hil : i < l.length := by have := HN.out; omega
          have MA := Lib.hid (ok_at HO.out hil)
          obtain ⟨b, off, rfl, hc⟩ := (R1b.out.kept kv) (by omega)
          obtain ⟨p0, p1, p2, p3⟩ := RowV.cells hc hil
          obtain ⟨b5, off5, rfl, hc5⟩ := (R5.out.kept kv) (by rw [List.length_map]; omega)
          obtain ⟨q0, q1, q2, q3⟩ := RowV.cells hc5 (k := i) (by rw [List.length_map]; exact hil)
          rw [ev0_map hil] at q0 q1 q2 q3
          obtain ⟨xk, xa, xb, xr, ek⟩ : ∃ xk xa xb xr : Int, ev0 l i = (xk, xa, xb, xr) := ⟨_, _, _, _, rfl⟩
          rw [ek] at p0 p1 p2 p3 q0 q1 q2 q3 MA
          unfold shV at q0 q1 q2 q3
          dsimp only at p0 p1 p2 p3 q0 q1 q2 q3
          have xa2 := MA.out.2.1
          dsimp only at xa2
          have ew : IntKind.i64.wrap (xa + d) = xa + d := by rw [IntKind.wrap_i64]; omega
          have H_p := Lib.hid (And.intro p0 (And.intro p1 (And.intro p2 p3)))
          have H_q := Lib.hid (And.intro q0 (And.intro q1 (And.intro q2 q3)))
          clear hc hc5 p0 p1 p2 p3 q0 q1 q2 q3 ek MA
          go_upto_region 19 with fail
          have B_p := Lib.hid (Kept.alln4 (show Kept wr wr from (by (repeat (first | with_reducible exact Kept.refl _ | with_reducible apply Kept.drew | with_reducible apply Kept.alloc | ((with_reducible apply Kept.set); focus (simp <;> omega)) | ((with_reducible apply Kept.via); focus with_reducible assumption))))) H_p)
          have B_q := Lib.hid (Kept.alln4 (show Kept wr wr from (by (repeat (first | with_reducible exact Kept.refl _ | with_reducible apply Kept.drew | with_reducible apply Kept.alloc | ((with_reducible apply Kept.set); focus (simp <;> omega)) | ((with_reducible apply Kept.via); focus with_reducible assumption))))) H_q)
          have kall : Kept w wr := (by (repeat (first | with_reducible exact Kept.refl _ | with_reducible apply Kept.drew | with_reducible apply Kept.alloc | ((with_reducible apply Kept.set); focus (simp <;> omega)) | ((with_reducible apply Kept.via); focus with_reducible assumption))))
          obtain ⟨q_p0, q_p1, q_p2, q_p3⟩ := kwn4 B_p
          obtain ⟨q_q0, q_q1, q_q2, q_q3⟩ := kwn4 B_q
          clear B_p B_q
          try simp only [List.append_eq, List.cons_append, List.nil_append]
          refine wp_region_kept (by kernel_rfl) (by as_aux_lemma => kernel_rfl) ?_
          repeat (go_big_quiet_step (first | fail))
          refine wpQuiet_nil ?_
          intro wq hw'
          have kq : Kept wr wq := by obtain ⟨p, rfl⟩ := hw'; exact p.k
          clear hw'
          clear kall
          go_wp2
          go_roundw
          case rel => exact ⟨i + 1, by omega, by go_num, Kept.trans kv kq⟩
          case measure => simp [intOf]; omega
        · obtain rfl : i = n := by omega
          go_wp2_with fail
          refine (same20_use HB.out S2.out S6.out (by omega) _ (R2b.out.kept kv) (R6.out.kept kv)).mono ?_
          rintro e w60 ⟨rfl, k60⟩
          go_wp2
          go_ret
          exact ⟨rfl, Kept.trans kz (Kept.trans kv k60)⟩
theorem eventLater_walk (CC : EvCheckC) (DC : EvDecC) (NC : EvEncC) (AC : EvAllC) {A2 : Option Addr} {len2 cap2 : Nat} {B : Nat → Option Addr} {C : Nat → Nat} {R : Nat → List Int} {d : Int} (w : World) (d0 : 0 ≤ d) (d1 : d ≤ 4294967295) (hs2 : SliceOk A2 len2 cap2) (hzr : ∀ i, i < len2 → ∀ x ∈ R i, In64 x) (hr2 : RowS .i64 w A2 len2 B C R) : Calls Try.prog 8 #[.slice A2 len2 cap2, .int .u32 d] w fun e w' => e = .returned (.bool true) ∧ Kept w w' := by
  by_cases yes : (∀ i, i < len2 → (R i).length ≤ 10) ∧ (len2 : Int) ≤ 100
  · obtain ⟨⟨l, bad⟩, ea⟩ : ∃ s : List Ev × List Int, allV (firstR R len2) = s := ⟨_, rfl⟩
    have hb := (all_len (firstR R len2)).1
    rw [ea, firstR_len] at hb
    exact later20_all CC DC NC AC (by omega) yes.1 d0 d1 hs2 hzr ea rfl hb w hr2
  · exact later20_many CC DC NC AC (by have := hs2.1; have := hs2.2.1; omega) (fun i hi => by have := (hr2.2 i hi).1.1; have := (hr2.2 i hi).1.2.1; omega) yes w hr2
end Go.Proofs.Ytbpdimogigcacaa
