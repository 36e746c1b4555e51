/-
  The walk of GuideParts: it answers true, if the calls do what they are to do.
-/
import Derived.Test.YtdbikeehoildlaaDoorRefP19
import Derived.Test.YtdbikeehoildlaaDoorAwake19
import Derived.Laws.StructEq
import Derived.Deep.RegionHeld3
import Derived.Deep.DeepCutAuto
namespace Go.Proofs.YtdbikeehoildlaaDoor
open Go.RowKit Go.BigFrame
set_option linter.unusedVariables false

/-- Configurations that came in, as a list. -/
def cfsOf (E : Nat → Nat → Int) (len : Nat) : List Cf := (List.range len).map fun i => ⟨E i 0, E i 1, E i 2, E i 3, E i 4, E i 5, E i 6⟩
theorem cfsOf_len (E : Nat → Nat → Int) (len : Nat) : (cfsOf E len).length = len := by simp [cfsOf]
theorem rowC_of {w : World} {A : Option Addr} {len : Nat} {E : Nat → Nat → Int} (h : RowI .i64 w A 7 len E) : RowC w A (cfsOf E len) := fun h0 => by
  rw [cfsOf_len] at h0
  obtain ⟨b, off, e, hc⟩ := h h0
  refine ⟨b, off, e, fun i hi j hj => ?_⟩
  rw [cfsOf_len] at hi
  rw [hc i hi j hj]
  have q : cf0 (cfsOf E len) i = ⟨E i 0, E i 1, E i 2, E i 3, E i 4, E i 5, E i 6⟩ := by simp [cf0, cfsOf, List.getD, hi]
  show some (Value.int .i64 (E i j)) = some (.int .i64 (cfc (cf0 (cfsOf E len) i) j))
  rw [q]
  match j, hj with
  | 0, _ => rfl
  | 1, _ => rfl
  | 2, _ => rfl
  | 3, _ => rfl
  | 4, _ => rfl
  | 5, _ => rfl
  | 6, _ => rfl
  | j + 7, h => omega
theorem cfsOf_in {len : Nat} {E : Nat → Nat → Int} (h : ∀ i, i < len → ∀ j, j < 7 → In64 (E i j)) : ∀ c ∈ cfsOf E len, CfIn c := fun c hc => by
  unfold cfsOf at hc
  obtain ⟨i, hi, rfl⟩ := List.mem_map.1 hc
  have hi' := List.mem_range.1 hi
  exact ⟨h i hi' 0 (by omega), h i hi' 1 (by omega), h i hi' 2 (by omega), h i hi' 3 (by omega), h i hi' 4 (by omega), h i hi' 5 (by omega), h i hi' 6 (by omega)⟩
theorem parts_split (l : List Cf) (e : Int) {j : Nat} (h : j < l.length) : partsC l e = partsC (l.take j) e ++ partsC (cf0 l j :: l.drop (j + 1)) e := by
  have q : l = l.take j ++ (cf0 l j :: l.drop (j + 1)) := by
    have : cf0 l j = l[j] := by simp [cf0, List.getD, h]
    rw [this, ← List.drop_eq_getElem_cons h, List.take_append_drop]
  unfold partsC
  rw [← List.filter_append, ← q]
theorem parts_at {l : List Cf} {e : Int} {j : Nat} (h : j < l.length) (he : cfgE (cf0 l j) = e) : (partsC (l.take j) e).length < (partsC l e).length ∧ cf0 (partsC l e) (partsC (l.take j) e).length = cf0 l j := by
  have q : partsC (cf0 l j :: l.drop (j + 1)) e = cf0 l j :: partsC (l.drop (j + 1)) e := by unfold partsC; rw [List.filter_cons, if_pos (by simp [he])]
  have s := parts_split l e h
  rw [q] at s
  rw [s]
  refine ⟨by simp, ?_⟩
  generalize partsC (l.take j) e = a
  generalize partsC (l.drop (j + 1)) e = b
  generalize cf0 l j = x
  unfold cf0
  simp [List.getD]
theorem parts_mem {l : List Cf} {e : Int} {k : Nat} (h : k < (partsC l e).length) : cfgE (cf0 (partsC l e) k) = e := by
  have q : cf0 (partsC l e) k = (partsC l e)[k] := by simp [cf0, List.getD, h]
  rw [q]
  have m : (partsC l e)[k] ∈ partsC l e := List.getElem_mem _
  unfold partsC at m
  have := (List.mem_filter.1 m).2
  exact of_decide_eq_true this
theorem parts_in {l : List Cf} {e : Int} (h : ∀ c ∈ l, CfIn c) : ∀ c ∈ partsC l e, CfIn c := fun c hc => by
  unfold partsC at hc
  exact h c (List.mem_filter.1 hc).1
set_option maxRecDepth 100000 in
theorem eq19_no {ysg ymx yfi ygn yls ygt ybu xsg xmx xfi xgn xls xgt xbu : Int} (h : ¬ (⟨ysg, ymx, yfi, ygn, yls, ygt, ybu⟩ : Cf) = (⟨xsg, xmx, xfi, xgn, xls, xgt, xbu⟩ : Cf)) : ∀ w : World, (binOp .eql 23 (.agg #[.int .i64 ysg, .int .i64 ymx, .int .i64 yfi, .int .i64 ygn, .int .i64 yls, .int .i64 ygt, .int .i64 ybu]) (.agg #[.int .i64 xsg, .int .i64 xmx, .int .i64 xfi, .int .i64 xgn, .int .i64 xls, .int .i64 xgt, .int .i64 xbu])).run Tryd.prog w = .ok (.bool false) w := by
  intro w
  simp only [Cf.mk.injEq, not_and] at h
  simp [go_sem]
  exact h
set_option maxRecDepth 100000 in
set_option maxHeartbeats 1600000 in
theorem parts19_many (GC : GdCheckC) (FC : GdFirstC) (IC : GdIdleC) (PC : GdPauseC) (UC : GdUsedC) (YC : GdPartsC) (EC : ECheckC) (BC : EBeginC) {A : Option Addr} {len cap : Nat} (h : 100 < len) (w : World) (T_ : Tens w) : Calls Tryd.prog 8 #[.slice A len cap] w fun e w' => e = .returned (.bool true) ∧ Kept w w' := by
  have GC' := Lib.hid GC
  have FC' := Lib.hid FC
  have IC' := Lib.hid IC
  have PC' := Lib.hid PC
  have UC' := Lib.hid UC
  have YC' := Lib.hid YC
  have EC' := Lib.hid EC
  have BC' := Lib.hid BC
  have AW' := Lib.hid (fun w TT_ => awake19 GC FC IC PC UC YC EC BC w TT_)
  clear GC FC IC PC UC YC EC BC
  have T := Lib.hid T_
  clear T_
  have d0 : decide (100 < (len : Int)) = true := decide_eq_true (by omega)
  have d1 : (100 : Int) < (len : Int) := by omega
  go_enter Tryd.func8, Tryd.ntmps8
  go_wp2_with fail
  refine (AW'.out _ (Tens.kept T.out (by (repeat (first | with_reducible exact Kept.refl _ | with_reducible apply Kept.drew | with_reducible apply Kept.alloc | ((with_reducible apply Kept.set); focus (simp <;> omega)) | ((with_reducible apply Kept.via); focus with_reducible assumption)))))).mono ?_
  rintro e w1 ⟨rfl, k1⟩
  go_wp2
  go_ret
  exact ⟨rfl, k1⟩
set_option maxRecDepth 100000 in
set_option maxHeartbeats 6400000 in
theorem parts19_in (GC : GdCheckC) (FC : GdFirstC) (IC : GdIdleC) (PC : GdPauseC) (UC : GdUsedC) (YC : GdPartsC) (EC : ECheckC) (BC : EBeginC) {A : Option Addr} {len cap n m : Nat} {l yes no : List Cf} (hs : SliceOk A len cap) (hn : l.length = len) (hl : len ≤ 100) (hi : ∀ c ∈ l, CfIn c) (ey : partsC l 0 = yes) (eo : partsC l 210 = no) (hy : yes.length = n) (ho : no.length = m) (w : World) (T_ : Tens w) (hr : RowC w A l) : Calls Tryd.prog 8 #[.slice A len cap] w fun e w' => e = .returned (.bool true) ∧ Kept w w' := by
  have GC' := Lib.hid GC
  have FC' := Lib.hid FC
  have IC' := Lib.hid IC
  have PC' := Lib.hid PC
  have UC' := Lib.hid UC
  have YC' := Lib.hid YC
  have EC' := Lib.hid EC
  have BC' := Lib.hid BC
  have AW' := Lib.hid (fun w TT_ => awake19 GC FC IC PC UC YC EC BC w TT_)
  clear GC FC IC PC UC YC EC BC
  have T := Lib.hid T_
  clear T_
  have HR := Lib.hid hr
  have HS := Lib.hid hs
  have HN := Lib.hid hn
  have HI := Lib.hid hi
  have EY := Lib.hid ey
  have EO := Lib.hid eo
  have HY := Lib.hid hy
  have HO := Lib.hid ho
  have nl : n ≤ len := by have := parts_len l 0; rw [ey, hy, hn] at this; exact this
  have ml : m ≤ len := by have := parts_len l 210; rw [eo, ho, hn] at this; exact this
  have iy : ∀ c ∈ yes, CfIn c := by rw [← ey]; exact parts_in hi
  have io : ∀ c ∈ no, CfIn c := by rw [← eo]; exact parts_in hi
  have IY := Lib.hid (And.intro iy io)
  have ZZ := Lib.hid (show (partsC yes 0 = yes ∧ partsC yes 210 = []) ∧ partsC no 0 = [] ∧ partsC no 210 = no from by
    rw [← ey, ← eo]
    exact ⟨⟨parts_same _ _, parts_other (by decide)⟩, parts_other (by decide), parts_same _ _⟩)
  clear hr hs hn hi ey eo hy ho iy io
  have dd : decide (100 < (len : Int)) = false := by simp; omega
  have dd2 : ¬ (100 : Int) < (len : Int) := by omega
  go_enter Tryd.func8, Tryd.ntmps8
  go_wp2_with fail
  refine (AW'.out _ (Tens.kept T.out (by (repeat (first | with_reducible exact Kept.refl _ | with_reducible apply Kept.drew | with_reducible apply Kept.alloc | ((with_reducible apply Kept.set); focus (simp <;> omega)) | ((with_reducible apply Kept.via); focus with_reducible assumption)))))).mono ?_
  rintro e w1 ⟨rfl, k1⟩
  go_wp2_with fail
  refine (YC'.out A len cap l yes no n m HS.out HN.out (by omega) HI.out EY.out EO.out HY.out HO.out _ (HR.out.kept k1)).mono ?_
  rintro e w2 ⟨A1, g1, A2, g2, rfl, s1, s2, r1, r2, _, _, k2⟩
  have S1 := Lib.hid s1
  have S2 := Lib.hid s2
  have R1 := Lib.hid r1
  have R2 := Lib.hid r2
  clear s1 s2 r1 r2
  go_wp2_with fail
  refine (YC'.out A1 n g1 yes yes [] n 0 S1.out HY.out (by omega) IY.out.1 ZZ.out.1.1 ZZ.out.1.2 HY.out rfl _ R1.out).mono ?_
  rintro e w3 ⟨B1, h1, B2, h2, rfl, _, _, u1, _, _, _, k3⟩
  have U1 := Lib.hid u1
  clear u1
  go_wp2_with fail
  refine (YC'.out A2 m g2 no [] no 0 m S2.out HO.out (by omega) IY.out.2 ZZ.out.2.1 ZZ.out.2.2 rfl HO.out _ (R2.out.kept k3)).mono ?_
  rintro e w4 ⟨D1, f1, D2, f2, rfl, _, _, _, u2, _, _, k4⟩
  have U2 := Lib.hid u2
  have HR4 := Lib.hid (HR.out.kept (Kept.trans (Kept.trans (Kept.trans k1 k2) k3) k4))
  have R14 := Lib.hid (R1.out.kept (Kept.trans k3 k4))
  have R24 := Lib.hid (R2.out.kept (Kept.trans k3 k4))
  have U14 := Lib.hid (U1.out.kept k4)
  have K4 := Kept.trans (Kept.trans (Kept.trans k1 k2) k3) k4
  have L0 := Lib.hid (fun (j : Nat) (h : j < len) (e : cfgE (cf0 l j) = 0) => (show (partsC (l.take j) 0).length < n ∧ cf0 yes (partsC (l.take j) 0).length = cf0 l j from by
    have q := parts_at (by rw [HN.out]; exact h) e
    rw [EY.out, HY.out] at q; exact q))
  have L1 := Lib.hid (fun (j : Nat) (h : j < len) (e : cfgE (cf0 l j) = 210) => (show (partsC (l.take j) 210).length < m ∧ cf0 no (partsC (l.take j) 210).length = cf0 l j from by
    have q := parts_at (by rw [HN.out]; exact h) e
    rw [EO.out, HO.out] at q; exact q))
  have M0 := Lib.hid (fun (k : Nat) (h : k < n) => (show cfgE (cf0 yes k) = 0 from by
    have q := parts_mem (l := l) (e := 0) (k := k) (by rw [EY.out, HY.out]; exact h)
    rw [EY.out] at q; exact q))
  have LE := Lib.hid (And.intro (show (partsC (l.take len) 0).length = n from by rw [parts_all 0 HN.out, EY.out, HY.out]) (show (partsC (l.take len) 210).length = m from by rw [parts_all 210 HN.out, EO.out, HO.out]))
  clear u2 k1 k2 k3 k4 HR R1 R2 U1 EY EO ZZ
  go_wp2
  go_loopw [10, 11, 12] (fun s10 s11 s12 wr => ∃ j : Nat, j ≤ len ∧ s10 = .int .i64 ((partsC (l.take j) 0).length : Nat) ∧ s11 = .int .i64 ((partsC (l.take j) 210).length : Nat) ∧ s12 = .int .i64 j ∧ Kept w4 wr) (fun _ _ s12 _ => len - (intOf s12).toNat)
  case atStart => exact ⟨0, Nat.zero_le _, rfl, rfl, rfl, Kept.refl _⟩
  case round =>
    obtain ⟨k, hk, rfl, rfl, rfl, kw⟩ := hrel
    have i100 := parts_take_len l 0 k
    have k100 := parts_take_len l 210 k
    by_cases hlt : k < len
    · have hltI : (k : Int) < (len : Int) := by omega
      have hlt' : k < l.length := by have := HN.out; omega
      have N0 := Lib.hid (parts_take l 0 hlt')
      have N1 := Lib.hid (parts_take l 210 hlt')
      have X0 := Lib.hid (L0.out k hlt)
      have X1 := Lib.hid (L1.out k hlt)
      have XI := Lib.hid (cf_in HI.out hlt')
      obtain ⟨b, off, rfl, hc⟩ := (HR4.out.kept kw) (by omega)
      obtain ⟨c0, c1, c2, c3, c4, c5, c6⟩ := RowC.cells hc hlt'
      clear hc
      obtain ⟨xsg, xmx, xfi, xgn, xls, xgt, xbu, ek⟩ : ∃ xsg xmx xfi xgn xls xgt xbu : Int, cf0 l k = ⟨xsg, xmx, xfi, xgn, xls, xgt, xbu⟩ := ⟨_, _, _, _, _, _, _, rfl⟩
      rw [ek] at c0 c1 c2 c3 c4 c5 c6
      dsimp only at c0 c1 c2 c3 c4 c5 c6
      rw [ek] at N0 N1 X0 X1 XI
      clear ek
      have H_r := Lib.hid (And.intro c0 (And.intro c1 (And.intro c2 (And.intro c3 (And.intro c4 (And.intro c5 c6))))))
      clear c0 c1 c2 c3 c4 c5 c6
      obtain ⟨ce, ec⟩ : ∃ ce, cfgE (⟨xsg, xmx, xfi, xgn, xls, xgt, xbu⟩ : Cf) = ce := ⟨_, rfl⟩
      have CK := Lib.hid (fun w => GC'.out (⟨xsg, xmx, xfi, xgn, xls, xgt, xbu⟩ : Cf) ce XI.out ec w)
      generalize hI : (partsC (l.take k) 0).length = i at *
      generalize hQ : (partsC (l.take k) 210).length = q at *
      have g0 : (0 : Int) ≤ (k : Int) := by omega
      have g1' : (0 : Int) ≤ (i : Int) := by omega
      have g2' : (0 : Int) ≤ (q : Int) := by omega
      by_cases he : ce = 0
      · subst he
        obtain ⟨hin, hx⟩ := X0.out ec
        have NI := Lib.hid (show (partsC (l.take (k + 1)) 0).length = i + 1 from by rw [N0.out, if_pos ec]; simp [hI])
        have NQ := Lib.hid (show (partsC (l.take (k + 1)) 210).length = q from by rw [N1.out, if_neg (by rw [ec]; decide)]; exact hQ)
        obtain ⟨b1, o1, rfl, hc1⟩ := (R14.out.kept kw) (by have := HY.out; omega)
        obtain ⟨p0, p1, p2, p3, p4, p5, p6⟩ := RowC.cells hc1 (k := i) (by have := HY.out; omega)
        rw [hx] at p0 p1 p2 p3 p4 p5 p6
        dsimp only at p0 p1 p2 p3 p4 p5 p6
        have H_q := Lib.hid (And.intro p0 (And.intro p1 (And.intro p2 (And.intro p3 (And.intro p4 (And.intro p5 p6))))))
        clear hc1 p0 p1 p2 p3 p4 p5 p6 hx ec
        have hinI : (i : Int) < (n : Int) := by omega
        have di : decide ((i : Int) < (n : Int)) = true := decide_eq_true hinI
        go_upto_region 12 with fail
        have B_r := Lib.hid (Kept.alln7 (show Kept wr wr from (by (repeat (first | with_reducible exact Kept.refl _ | with_reducible apply Kept.drew | with_reducible apply Kept.alloc | ((with_reducible apply Kept.set); focus (simp <;> omega)) | ((with_reducible apply Kept.via); focus with_reducible assumption))))) H_r)
        have B_q := Lib.hid (Kept.alln7 (show Kept wr wr from (by (repeat (first | with_reducible exact Kept.refl _ | with_reducible apply Kept.drew | with_reducible apply Kept.alloc | ((with_reducible apply Kept.set); focus (simp <;> omega)) | ((with_reducible apply Kept.via); focus with_reducible assumption))))) H_q)
        have kall : Kept w wr := (by (repeat (first | with_reducible exact Kept.refl _ | with_reducible apply Kept.drew | with_reducible apply Kept.alloc | ((with_reducible apply Kept.set); focus (simp <;> omega)) | ((with_reducible apply Kept.via); focus with_reducible assumption))))
        obtain ⟨q_r0, q_r1, q_r2, q_r3, q_r4, q_r5, q_r6⟩ := kwn7 B_r
        obtain ⟨q_q0, q_q1, q_q2, q_q3, q_q4, q_q5, q_q6⟩ := kwn7 B_q
        clear B_r B_q
        refine wp_region_kept (by kernel_rfl) (by as_aux_lemma => kernel_rfl) ?_
        repeat (go_big_quiet_step (first | (with_reducible exact kept_of (CK.out _))))
        refine wpQuiet_nil ?_
        intro wq hw'
        have kq : Kept wr wq := by obtain ⟨p, rfl⟩ := hw'; exact p.k
        clear hw'
        clear kall
        go_wp2
        go_roundw
        case rel => exact ⟨k + 1, by omega, (by (first | (rw [NI.out]; done) | (rw [NI.out]; go_num))), (by (first | (rw [NQ.out]; done) | (rw [NQ.out]; go_num))), by go_num, Kept.trans kw kq⟩
        case measure => simp [intOf]; omega
      · have h2 : ce = 210 := by rcases cfgE_vals (⟨xsg, xmx, xfi, xgn, xls, xgt, xbu⟩ : Cf) with z | z <;> omega
        subst h2
        obtain ⟨hqm, hx⟩ := X1.out ec
        have NI := Lib.hid (show (partsC (l.take (k + 1)) 0).length = i from by rw [N0.out, if_neg (by rw [ec]; decide)]; exact hI)
        have NQ := Lib.hid (show (partsC (l.take (k + 1)) 210).length = q + 1 from by rw [N1.out, if_pos ec]; simp [hQ])
        obtain ⟨b2, o2, rfl, hc2⟩ := (R24.out.kept kw) (by have := HO.out; omega)
        obtain ⟨p0, p1, p2, p3, p4, p5, p6⟩ := RowC.cells hc2 (k := q) (by have := HO.out; omega)
        rw [hx] at p0 p1 p2 p3 p4 p5 p6
        dsimp only at p0 p1 p2 p3 p4 p5 p6
        have H_p := Lib.hid (And.intro p0 (And.intro p1 (And.intro p2 (And.intro p3 (And.intro p4 (And.intro p5 p6))))))
        clear hc2 p0 p1 p2 p3 p4 p5 p6 hx
        have hqI : (q : Int) < (m : Int) := by omega
        have dq : decide ((q : Int) < (m : Int)) = true := decide_eq_true hqI
        by_cases hin : i < n
        · have hinI : (i : Int) < (n : Int) := by omega
          have di : decide ((i : Int) < (n : Int)) = true := decide_eq_true hinI
          have ne := M0.out i hin
          obtain ⟨b1, o1, rfl, hc1⟩ := (R14.out.kept kw) (by have := HY.out; omega)
          obtain ⟨p0, p1, p2, p3, p4, p5, p6⟩ := RowC.cells hc1 (k := i) (by have := HY.out; omega)
          obtain ⟨ysg, ymx, yfi, ygn, yls, ygt, ybu, ek⟩ : ∃ ysg ymx yfi ygn yls ygt ybu : Int, cf0 yes i = ⟨ysg, ymx, yfi, ygn, yls, ygt, ybu⟩ := ⟨_, _, _, _, _, _, _, rfl⟩
          rw [ek] at p0 p1 p2 p3 p4 p5 p6 ne
          dsimp only at p0 p1 p2 p3 p4 p5 p6
          have H_q := Lib.hid (And.intro p0 (And.intro p1 (And.intro p2 (And.intro p3 (And.intro p4 (And.intro p5 p6))))))
          have df : ¬ (⟨ysg, ymx, yfi, ygn, yls, ygt, ybu⟩ : Cf) = (⟨xsg, xmx, xfi, xgn, xls, xgt, xbu⟩ : Cf) := fun z => by rw [z, ec] at ne; cases ne
          clear hc1 p0 p1 p2 p3 p4 p5 p6 ek ne ec
          have EQ := eq19_no df
          have EQ2 := df
          simp only [Cf.mk.injEq, not_and] at EQ2
          have EQ3 := df
          simp only [Cf.mk.injEq] at EQ3
          go_upto_region 12 with fail
          have B_r := Lib.hid (Kept.alln7 (show Kept wr wr from (by (repeat (first | with_reducible exact Kept.refl _ | with_reducible apply Kept.drew | with_reducible apply Kept.alloc | ((with_reducible apply Kept.set); focus (simp <;> omega)) | ((with_reducible apply Kept.via); focus with_reducible assumption))))) H_r)
          have B_q := Lib.hid (Kept.alln7 (show Kept wr wr from (by (repeat (first | with_reducible exact Kept.refl _ | with_reducible apply Kept.drew | with_reducible apply Kept.alloc | ((with_reducible apply Kept.set); focus (simp <;> omega)) | ((with_reducible apply Kept.via); focus with_reducible assumption))))) H_q)
          have kall : Kept w wr := (by (repeat (first | with_reducible exact Kept.refl _ | with_reducible apply Kept.drew | with_reducible apply Kept.alloc | ((with_reducible apply Kept.set); focus (simp <;> omega)) | ((with_reducible apply Kept.via); focus with_reducible assumption))))
          obtain ⟨q_r0, q_r1, q_r2, q_r3, q_r4, q_r5, q_r6⟩ := kwn7 B_r
          obtain ⟨q_q0, q_q1, q_q2, q_q3, q_q4, q_q5, q_q6⟩ := kwn7 B_q
          clear B_r B_q
          refine wp_region_kept (by kernel_rfl) (by as_aux_lemma => kernel_rfl) ?_
          repeat (go_big_quiet_step (first | (with_reducible exact kept_of (CK.out _))))
          refine wpQuiet_nil ?_
          intro wq hw'
          have kq : Kept wr wq := by obtain ⟨p, rfl⟩ := hw'; exact p.k
          clear hw'
          have kq1 := kq
          clear kall kq
          have H_r2 := Lib.hid (Kept.alln7 kq1 H_r)
          have H_p2 := Lib.hid (Kept.alln7 kq1 H_p)
          have kwB := Kept.trans kw kq1
          clear H_r H_p kw kq1
          go_upto_region 14 with fail
          have B2_r2 := Lib.hid (Kept.alln7 (show Kept wq wq from (by (repeat (first | with_reducible exact Kept.refl _ | with_reducible apply Kept.drew | with_reducible apply Kept.alloc | ((with_reducible apply Kept.set); focus (simp <;> omega)) | ((with_reducible apply Kept.via); focus with_reducible assumption))))) H_r2)
          have B2_p2 := Lib.hid (Kept.alln7 (show Kept wq wq from (by (repeat (first | with_reducible exact Kept.refl _ | with_reducible apply Kept.drew | with_reducible apply Kept.alloc | ((with_reducible apply Kept.set); focus (simp <;> omega)) | ((with_reducible apply Kept.via); focus with_reducible assumption))))) H_p2)
          have kall2 : Kept w wq := (by (repeat (first | with_reducible exact Kept.refl _ | with_reducible apply Kept.drew | with_reducible apply Kept.alloc | ((with_reducible apply Kept.set); focus (simp <;> omega)) | ((with_reducible apply Kept.via); focus with_reducible assumption))))
          obtain ⟨q2_r20, q2_r21, q2_r22, q2_r23, q2_r24, q2_r25, q2_r26⟩ := kwn7 B2_r2
          obtain ⟨q2_p20, q2_p21, q2_p22, q2_p23, q2_p24, q2_p25, q2_p26⟩ := kwn7 B2_p2
          clear B2_r2 B2_p2
          refine wp_region_kept (by kernel_rfl) (by as_aux_lemma => kernel_rfl) ?_
          repeat (go_big_quiet_step (first | (with_reducible exact kept_of (CK.out _))))
          refine wpQuiet_nil ?_
          intro wq2 hw'
          have kq2 : Kept wq wq2 := by obtain ⟨p, rfl⟩ := hw'; exact p.k
          clear hw'
          clear kall2
          go_wp2
          go_roundw
          case rel => exact ⟨k + 1, by omega, (by (first | (rw [NI.out]; done) | (rw [NI.out]; go_num))), (by (first | (rw [NQ.out]; done) | (rw [NQ.out]; go_num))), by go_num, Kept.trans kwB kq2⟩
          case measure => simp [intOf]; omega
        · have di : decide ((i : Int) < (n : Int)) = false := by simp; omega
          have di2 : ¬ (i : Int) < (n : Int) := by omega
          clear ec
          go_upto_region 12 with fail
          have B_r := Lib.hid (Kept.alln7 (show Kept wr wr from (by (repeat (first | with_reducible exact Kept.refl _ | with_reducible apply Kept.drew | with_reducible apply Kept.alloc | ((with_reducible apply Kept.set); focus (simp <;> omega)) | ((with_reducible apply Kept.via); focus with_reducible assumption))))) H_r)
          have kall : Kept w wr := (by (repeat (first | with_reducible exact Kept.refl _ | with_reducible apply Kept.drew | with_reducible apply Kept.alloc | ((with_reducible apply Kept.set); focus (simp <;> omega)) | ((with_reducible apply Kept.via); focus with_reducible assumption))))
          obtain ⟨q_r0, q_r1, q_r2, q_r3, q_r4, q_r5, q_r6⟩ := kwn7 B_r
          clear B_r
          refine wp_region_kept (by kernel_rfl) (by as_aux_lemma => kernel_rfl) ?_
          repeat (go_big_quiet_step (first | (with_reducible exact kept_of (CK.out _))))
          refine wpQuiet_nil ?_
          intro wq hw'
          have kq : Kept wr wq := by obtain ⟨p, rfl⟩ := hw'; exact p.k
          clear hw'
          have kq1 := kq
          clear kall kq
          have H_r2 := Lib.hid (Kept.alln7 kq1 H_r)
          have H_p2 := Lib.hid (Kept.alln7 kq1 H_p)
          have kwB := Kept.trans kw kq1
          clear H_r H_p kw kq1
          go_upto_region 14 with fail
          have B2_r2 := Lib.hid (Kept.alln7 (show Kept wq wq from (by (repeat (first | with_reducible exact Kept.refl _ | with_reducible apply Kept.drew | with_reducible apply Kept.alloc | ((with_reducible apply Kept.set); focus (simp <;> omega)) | ((with_reducible apply Kept.via); focus with_reducible assumption))))) H_r2)
          have B2_p2 := Lib.hid (Kept.alln7 (show Kept wq wq from (by (repeat (first | with_reducible exact Kept.refl _ | with_reducible apply Kept.drew | with_reducible apply Kept.alloc | ((with_reducible apply Kept.set); focus (simp <;> omega)) | ((with_reducible apply Kept.via); focus with_reducible assumption))))) H_p2)
          have kall2 : Kept w wq := (by (repeat (first | with_reducible exact Kept.refl _ | with_reducible apply Kept.drew | with_reducible apply Kept.alloc | ((with_reducible apply Kept.set); focus (simp <;> omega)) | ((with_reducible apply Kept.via); focus with_reducible assumption))))
          obtain ⟨q2_r20, q2_r21, q2_r22, q2_r23, q2_r24, q2_r25, q2_r26⟩ := kwn7 B2_r2
          obtain ⟨q2_p20, q2_p21, q2_p22, q2_p23, q2_p24, q2_p25, q2_p26⟩ := kwn7 B2_p2
          clear B2_r2 B2_p2
          refine wp_region_kept (by kernel_rfl) (by as_aux_lemma => kernel_rfl) ?_
          repeat (go_big_quiet_step (first | (with_reducible exact kept_of (CK.out _))))
          refine wpQuiet_nil ?_
          intro wq2 hw'
          have kq2 : Kept wq wq2 := by obtain ⟨p, rfl⟩ := hw'; exact p.k
          clear hw'
          clear kall2
          go_wp2
          go_roundw
          case rel => exact ⟨k + 1, by omega, (by (first | (rw [NI.out]; done) | (rw [NI.out]; go_num))), (by (first | (rw [NQ.out]; done) | (rw [NQ.out]; go_num))), by go_num, Kept.trans kwB kq2⟩
          case measure => simp [intOf]; omega
    · obtain rfl : k = len := by omega
      have SA := Lib.hid (fun w_ (kk : Kept w4 w_) => refSame19_ok HY.out (by omega) w_ (U14.out.kept kk) (R14.out.kept kk) (cap := h1) (cap2 := g1))
      have SB := Lib.hid (fun w_ (kk : Kept w4 w_) => refSame19_ok HO.out (by omega) w_ (U2.out.kept kk) (R24.out.kept kk) (cap := f2) (cap2 := g2))
      rw [LE.out.1, LE.out.2]
      go_wp2_with fail
      refine (SA.out _ kw).mono ?_
      rintro e w5 ⟨rfl, k5⟩
      go_wp2_with fail
      refine (SB.out _ (Kept.trans kw k5)).mono ?_
      rintro e w6 ⟨rfl, k6⟩
      go_wp2
      go_ret
      exact ⟨rfl, Kept.trans (Kept.trans (Kept.trans K4 kw) k5) k6⟩
theorem guideParts_walk (GC : GdCheckC) (FC : GdFirstC) (IC : GdIdleC) (PC : GdPauseC) (UC : GdUsedC) (YC : GdPartsC) (EC : ECheckC) (BC : EBeginC) {A : Option Addr} {len cap : Nat} {l : List Cf} (w : World) (T_ : Tens w) (hs : SliceOk A len cap) (hn : l.length = len) (hi : ∀ c ∈ l, CfIn c) (hr : RowC w A l) : Calls Tryd.prog 8 #[.slice A len cap] w fun e w' => e = .returned (.bool true) ∧ Kept w w' := by
  by_cases h : 100 < len
  · exact parts19_many GC FC IC PC UC YC EC BC h w T_
  · exact parts19_in GC FC IC PC UC YC EC BC hs hn (by omega) hi rfl rfl rfl rfl w T_ hr
end Go.Proofs.YtdbikeehoildlaaDoor
