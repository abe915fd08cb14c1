/- Corrections from grid to grid: what they are; the model's FixesMake, FixesShort, EditionFar. -/
import Derived.Test.YtidlloelinmnnaaEa
import Derived.Test.YtidlloelinmnnaaEb
namespace Go.Proofs.Ytidlloelinmnnaa
open Go.RowKit Go.Shelf
set_option linter.unusedVariables false
set_option linter.unusedSimpArgs false

/-- the correction of a cell from one relief to another one, if they differ there -/
def mk1 (C : Nat) (Z Y : Nat → Int) (i : Nat) : List Fx := if Z i = Y i then [] else [⟨(i / C : Nat), (i % C : Nat), Z i, Y i⟩]
def mkD (C : Nat) (Z Y : Nat → Int) : Nat → Nat → List Fx
  | _, 0 => []
  | i, k + 1 => mk1 C Z Y i ++ mkD C Z Y (i + 1) k
theorem mkD_snoc (C : Nat) (Z Y : Nat → Int) : ∀ k i, mkD C Z Y i (k + 1) = mkD C Z Y i k ++ mk1 C Z Y (i + k)
  | 0, i => by simp [mkD]
  | k + 1, i => by
    show mk1 C Z Y i ++ mkD C Z Y (i + 1) (k + 1) = (mk1 C Z Y i ++ mkD C Z Y (i + 1) k) ++ _
    rw [mkD_snoc C Z Y k (i + 1), List.append_assoc, show i + 1 + k = i + (k + 1) by omega]
theorem mk1_len (C : Nat) (Z Y : Nat → Int) (i : Nat) : (mk1 C Z Y i).length ≤ 1 := by unfold mk1; split <;> simp
theorem mkD_len (C : Nat) (Z Y : Nat → Int) : ∀ k i, (mkD C Z Y i k).length ≤ k
  | 0, _ => Nat.le_refl _
  | k + 1, i => by
    have h1 := mk1_len C Z Y i
    have h2 := mkD_len C Z Y k (i + 1)
    simp only [mkD, List.length_append]
    omega
theorem mkD_congr {C : Nat} {Z Z' Y Y' : Nat → Int} : ∀ k i, (∀ j, i ≤ j → j < i + k → Z j = Z' j ∧ Y j = Y' j) → mkD C Z Y i k = mkD C Z' Y' i k
  | 0, _, _ => rfl
  | k + 1, i, h => by
    have h0 := h i (Nat.le_refl _) (by omega)
    show mk1 C Z Y i ++ _ = mk1 C Z' Y' i ++ _
    rw [mkD_congr k (i + 1) (fun j h1 h2 => h j (by omega) (by omega))]
    congr 1
    unfold mk1
    rw [h0.1, h0.2]
theorem mkD_mem {C : Nat} {Z Y : Nat → Int} : ∀ k i f, f ∈ mkD C Z Y i k → ∃ j, i ≤ j ∧ j < i + k ∧ f = ⟨(j / C : Nat), (j % C : Nat), Z j, Y j⟩ ∧ Z j ≠ Y j
  | 0, _, _, h => by cases h
  | k + 1, i, f, h => by
    rcases List.mem_append.1 h with h | h
    · unfold mk1 at h
      split at h
      · cases h
      · rw [List.mem_singleton] at h
        exact ⟨i, Nat.le_refl _, by omega, h, by assumption⟩
    · obtain ⟨j, h1, h2, h3⟩ := mkD_mem k (i + 1) f h
      exact ⟨j, by omega, by omega, h3⟩

/-- two grids with as many rows and columns -/
def AkOk (a b : G) : Prop := a.Valid ∧ b.Valid ∧ a.n = b.n ∧ a.len 0 = b.len 0
noncomputable def akB (a b : G) : Bool := @decide (AkOk a b) (Classical.propDecidable _)
theorem akB_yes {a b : G} (h : AkOk a b) : akB a b = true := by simp [akB, h]
theorem akB_no {a b : G} (h : ¬ AkOk a b) : akB a b = false := by simp [akB, h]
def mkL (a b : G) : List Fx := mkD (a.len 0) a.flat b.flat 0 (a.n * a.len 0)
noncomputable def mkE (a b : G) : List Fx := if akB a b = true then mkL a b else []
theorem mkE_yes {a b : G} (h : AkOk a b) : mkE a b = mkL a b := by rw [mkE, if_pos (akB_yes h)]
theorem mkE_no {a b : G} (h : ¬ AkOk a b) : mkE a b = [] := by rw [mkE, if_neg (by rw [akB_no h]; simp)]
theorem mkL_len {a b : G} (h : a.Valid) : (mkL a b).length ≤ 49 := Nat.le_trans (mkD_len _ _ _ _ _) (mul_le_49 h.1.2 h.2.1.2)
theorem mkE_len (a b : G) : (mkE a b).length ≤ 49 := by
  by_cases h : AkOk a b
  · rw [mkE_yes h]; exact mkL_len h.1
  · rw [mkE_no h]; simp
theorem mkD_range {R C : Nat} {Z Y : Nat → Int} (hR : R ≤ 7) (hC : 1 ≤ C ∧ C ≤ 7) (hZ : ∀ i, i < R * C → 0 ≤ Z i ∧ Z i ≤ 99) (hY : ∀ i, i < R * C → 0 ≤ Y i ∧ Y i ≤ 99) : ∀ j, j < (mkD C Z Y 0 (R * C)).length * 4 → -9223372036854775808 ≤ fzZ (mkD C Z Y 0 (R * C)) j ∧ fzZ (mkD C Z Y 0 (R * C)) j ≤ 9223372036854775807 :=
  fxN_range fun f hf => by
    obtain ⟨j, _, h2, rfl, _⟩ := mkD_mem _ _ f hf
    rw [Nat.zero_add] at h2
    have h49 := mul_le_49 hR hC.2
    have h3 := hZ j h2
    have h4 := hY j h2
    have h5 : j / C ≤ j := Nat.div_le_self _ _
    have h6 : j % C ≤ j := Nat.mod_le _ _
    have h7 : (0 : Int) ≤ ((j / C : Nat) : Int) := Int.natCast_nonneg _
    have h8 : (0 : Int) ≤ ((j % C : Nat) : Int) := Int.natCast_nonneg _
    exact ⟨by simp only; omega, by simp only; omega, by simp only; omega, by simp only; omega⟩
theorem flat_range2 {a b : G} (h : AkOk a b) : ∀ i, i < a.n * a.len 0 → 0 ≤ b.flat i ∧ b.flat i ≤ 99 := by
  obtain ⟨_, hb, e1, e2⟩ := h
  rw [e1, e2]
  exact flat_range hb
theorem mkE_range (a b : G) : ∀ j, j < (mkE a b).length * 4 → -9223372036854775808 ≤ fzZ (mkE a b) j ∧ fzZ (mkE a b) j ≤ 9223372036854775807 := by
  by_cases h : AkOk a b
  · rw [mkE_yes h]
    exact mkD_range h.1.1.2 h.1.2.1 (flat_range h.1) (flat_range2 h)
  · rw [mkE_no h]
    intro j hj
    simp at hj

set_option maxRecDepth 20000 in
set_option maxHeartbeats 4000000 in
theorem l9Alike_any (v u : Value) (lo hi : Nat) (a b : G) (w : World) (hv : RdM lo hi w v a) (hu : RdM lo hi w u b) :
    Calls Try.prog 90 #[v, u] w (EqPost (akB a b) w) := by
  have HA := Lib.hid (fun k => specValid_any v lo hi a (w.drewN k) (hv.drewN k))
  have HB := Lib.hid (fun k => specValid_any u lo hi b (w.drewN k) (hu.drewN k))
  by_cases ha : a.Valid
  case neg =>
    have HE := Lib.hid (akB_no (a := a) (b := b) (fun h => ha h.1))
    obtain ⟨_, _, _, _, _, _, rfl, n1, n2, _⟩ := hv
    obtain ⟨_, _, _, _, _, _, rfl, n3, n4, _⟩ := hu
    rw [G.vB_no ha] at HA
    clear ha HB
    go_enter Try.func90, Try.ntmps90
    go_wp2_with fail
    go_quiet ((go_at_call 95; exact Calls.quiet_ofE (HA.out _)))
    go_wp2
    go_ret
    exact eq_post HE.out _ _
  rw [G.vB_yes ha] at HA
  by_cases hb : b.Valid
  case neg =>
    have HE := Lib.hid (akB_no (a := a) (b := b) (fun h => hb h.2.1))
    obtain ⟨_, _, _, _, _, _, rfl, n1, n2, _⟩ := hv
    obtain ⟨_, _, _, _, _, _, rfl, n3, n4, _⟩ := hu
    rw [G.vB_no hb] at HB
    clear ha hb
    go_enter Try.func90, Try.ntmps90
    go_wp2_with fail
    go_quiet (first | (go_at_call 95; with_reducible exact Calls.quiet_ofE (HA.out _)) | (go_at_call 95; with_reducible exact Calls.quiet_ofE (HB.out _)))
    go_wp2
    go_ret
    exact eq_post HE.out _ _
  rw [G.vB_yes hb] at HB
  obtain ⟨ba, oa, ca, b1, o1, c1, rfl, p1, _, _, _⟩ := hv.cellAt (r := 0) (c := 0) (by have := ha.1; omega) (by have := ha.2.1; omega)
  obtain ⟨bb, ob, cb, b2, o2, c2, rfl, p2, _, _, _⟩ := hu.cellAt (r := 0) (c := 0) (by have := hb.1; omega) (by have := hb.2.1; omega)
  rw [Nat.add_zero] at p1 p2
  have k1 : (0 : Int) < a.n := by have := ha.1; omega
  have k2 : (0 : Int) < b.n := by have := hb.1; omega
  by_cases hn : a.n = b.n
  case neg =>
    have HE := Lib.hid (akB_no (a := a) (b := b) (fun h => hn h.2.2.1))
    have hne : (((a.n : Nat) : Int) == ((b.n : Nat) : Int)) = false := by simp; omega
    have hne2 : decide (a.n = b.n) = false := by simp [hn]
    clear ha hb hn hv hu
    go_enter Try.func90, Try.ntmps90
    go_wp2_with fail
    go_quiet (first | (go_at_call 95; with_reducible exact Calls.quiet_ofE (HA.out _)) | (go_at_call 95; with_reducible exact Calls.quiet_ofE (HB.out _)))
    go_wp2
    go_ret
    exact eq_post HE.out _ _
  have hne : (((a.n : Nat) : Int) == ((b.n : Nat) : Int)) = true := by simp [hn]
  have hne2 : decide (a.n = b.n) = true := by simp [hn]
  have HE := Lib.hid (show (((a.len 0 : Nat) : Int) == ((b.len 0 : Nat) : Int)) = akB a b from by
    by_cases hl : a.len 0 = b.len 0
    · rw [akB_yes ⟨ha, hb, hn, hl⟩]; simp [hl]
    · rw [akB_no (fun h => hl h.2.2.2)]; simp; omega)
  clear ha hb hn hv hu
  go_enter Try.func90, Try.ntmps90
  go_wp2_with fail
  go_quiet (first | (go_at_call 95; with_reducible exact Calls.quiet_ofE (HA.out _)) | (go_at_call 95; with_reducible exact Calls.quiet_ofE (HB.out _)))
  go_wp2
  go_ret
  first | exact eq_post HE.out _ _ | exact eq_post HE.out.symm _ _ | (rw [← HE.out]; exact eq_post rfl _ _)

/-- corrections and a bool, to read -/
def FsPost (b : Bool) (L : List Fx) (w : World) (e : Ending) (w' : World) : Prop := ∃ v, e = .returned (.tuple #[v, .bool b]) ∧ (∃ a l c, v = .slice a l c) ∧ Lf w.heap.size w' v L ∧ Below w.heap.size w w'
theorem Lf.none (B : Nat) (w : World) : Lf B w (.slice none 0 0) [] := ⟨rfl, Or.inl ⟨rfl, rfl⟩⟩
theorem lf_lit (w : World) : Lf w.heap.size (w.alloc (.cells #[] 63)) (.slice (some ⟨w.heap.size, 0, none⟩) 0 0) [] := World.ownsRow_lit w #[] 0 (Nat.le_refl _) (Nat.zero_le _) (by simp)
theorem Lf.below {B C : Nat} {w w' : World} {v : Value} {L : List Fx} (h : Lf B w v L) (hb : Below C w w') (hC : w.heap.size ≤ C) : Lf B w' v L := ownsRow_below h hb (fun k hk => by have := (h.lt k hk).2; omega)
theorem Lf.shape {B : Nat} {w : World} {v : Value} {L : List Fx} (h : Lf B w v L) : ∃ a c, v = .slice a L.length c := by
  rcases h.2 with ⟨rfl, h0⟩ | ⟨g, cap, cur, rfl, _⟩
  · exact ⟨Option.none, 0, by rw [h0]⟩
  · exact ⟨_, _, rfl⟩
theorem Lf.push {B : Nat} {w : World} {v : Value} {L : List Fx} {a b c d : Int} (h : w.ownsRow B 63 4 v (L.length + 1) (nsV (fxN L) ++ [.int .i64 a, .int .i64 b, .int .i64 c, .int .i64 d])) : Lf B w v (L ++ [⟨a, b, c, d⟩]) := by
  unfold Lf
  rw [fxN_app, List.length_append]
  simpa [nsV, fxN] using h
theorem fx_len4 (L : List Fx) : (nsV (fxN L)).length = L.length * 4 := by simp [nsV, fxN_len]

theorem below_un' {B : Nat} {a w : World} {o : Obj} (h : Below B a (w.alloc o)) : Below B a (w.drew.alloc o) := ⟨h.os, h.tape, h.output, h.size, h.block⟩
set_option maxRecDepth 20000 in
set_option maxHeartbeats 16000000 in
theorem specFixesMake_any (v u : Value) (lo hi : Nat) (a b : G) (w : World) (hv : RdM lo hi w v a) (hu : RdM lo hi w u b) (hh : hi ≤ w.heap.size) :
    Calls Try.prog 51 #[v, u] w (FsPost (akB a b) (mkE a b) w) := by
  have HB0 := Lib.hid ((Below.refl w.heap.size w).alloc (Nat.le_refl _) (.cells #[] 63))
  have HAL := Lib.hid (l9Alike_any v u lo hi a b (w.alloc (.cells #[] 63)) (hv.same (SameIn.below HB0.out hh)) (hu.same (SameIn.below HB0.out hh)))
  have HL0 := Lib.hid (lf_lit w)
  by_cases hok : AkOk a b
  case neg =>
    have HE := Lib.hid (mkE_no hok)
    have HBN := Lib.hid (akB_no hok)
    rw [akB_no hok] at HAL
    obtain ⟨_, _, _, _, _, _, rfl, n1, n2, _⟩ := hv
    obtain ⟨_, _, _, _, _, _, rfl, n3, n4, _⟩ := hu
    clear hok
    go_enter Try.func51, Try.ntmps51
    go_wp2_with fail
    refine HAL.out.mono ?_
    rintro e w2 ⟨rfl, k, rfl⟩
    go_wp2
    go_ret2
    refine ⟨.slice (some ⟨w.heap.size, 0, none⟩) 0 0, ?_, ⟨_, _, _, rfl⟩, ?_, below_drewN HB0.out _⟩
    · rw [HBN.out]; rfl
    · rw [HE.out]; exact HL0.out
  have HE := Lib.hid (mkE_yes hok)
  have HBN := Lib.hid (akB_yes hok)
  rw [akB_yes hok] at HAL
  have HOK := Lib.hid hok
  obtain ⟨i0, hi0, hz0, hz1, hz2⟩ := info_parts Try.infoLb
  have HV := Lib.hid (fun (W : World) (hb : Below w.heap.size w W) => hv.same (SameIn.below hb hh))
  have HU := Lib.hid (fun (W : World) (hb : Below w.heap.size w W) => hu.same (SameIn.below hb hh))
  obtain ⟨ao, ca, ba0, oa0, Ao, Cp, rfl, n1, n2, _⟩ := hv
  obtain ⟨bo, cb, bb0, ob0, Bo, Cq, rfl, n3, n4, _⟩ := hu
  clear hok
  go_enter Try.func51, Try.ntmps51
  go_wp2_with fail
  refine HAL.out.mono ?_
  rintro e w2 ⟨rfl, k, rfl⟩
  have HB2 := Lib.hid (below_drewN HB0.out k)
  go_wp2
  go_loopw [6, 7] (fun o r wr => ∃ (i : Nat) (x : Value), i ≤ a.n ∧ r = .int .i64 i ∧ x = o ∧ Lf w.heap.size wr x (mkD (a.len 0) a.flat b.flat 0 (i * a.len 0)) ∧ Below w.heap.size w wr) (fun _ r => fun _ => a.n - (intOf r).toNat)
  case atStart => exact ⟨0, _, Nat.zero_le _, rfl, rfl, by rw [Nat.zero_mul]; exact HL0.out, HB2.out⟩
  case round =>
    obtain ⟨i, x, hle, rfl, rfl, hlf, hbel⟩ := hrel
    have HLF := Lib.hid hlf
    have HBL := Lib.hid hbel
    clear hlf hbel
    by_cases hlt : i < a.n
    · have hlt' : (i : Int) < a.n := by omega
      go_wp2
      go_loopw [6, 8] (fun o c wr => ∃ (j : Nat) (x : Value), j ≤ a.len 0 ∧ c = .int .i64 j ∧ x = o ∧ Lf w.heap.size wr x (mkD (a.len 0) a.flat b.flat 0 (i * a.len 0 + j)) ∧ Below w.heap.size w wr) (fun _ c => fun _ => a.len 0 - (intOf c).toNat)
      case atStart => exact ⟨0, _, Nat.zero_le _, rfl, rfl, HLF.out, HBL.out⟩
      case round =>
        obtain ⟨j, x2, hj, rfl, rfl, hlf2, hbel2⟩ := hrel
        have HLF2 := Lib.hid hlf2
        have HBW := Lib.hid hbel2
        have hlr := (HOK.out.1.2.2 i hlt).1
        have hlr2 := (HOK.out.2.1.2.2 i (by have := HOK.out.2.2.1; omega)).1
        have hlb := HOK.out.2.2.2
        have hi2 : i < b.n := by have := HOK.out.2.2.1; omega
        have hi2' : (i : Int) < b.n := by omega
        have hC0 := HOK.out.1.2.1
        obtain ⟨uo, cu, hsl⟩ := hlf2.shape
        obtain ⟨LL, eLL⟩ : ∃ LL, mkD (a.len 0) a.flat b.flat 0 (i * a.len 0 + j) = LL := ⟨_, rfl⟩
        have hLL : LL.length ≤ 1000 := by
          have h1 := mkD_len (a.len 0) a.flat b.flat (i * a.len 0 + j) 0
          rw [eLL] at h1
          have h2 := cell_lt (R := a.n) (C := a.len 0 + 1) rfl hlt (show j < a.len 0 + 1 by omega)
          have h3 : a.n * (a.len 0 + 1) ≤ 7 * 8 := Nat.mul_le_mul HOK.out.1.1.2 (by omega)
          have h4 : i * a.len 0 ≤ i * (a.len 0 + 1) := Nat.mul_le_mul_left _ (by omega)
          omega
        by_cases hjl : j < a.len 0
        · have hq1 := (HV.out wr hbel2).cellAt (r := i) (c := j) hlt (by omega)
          have hq2 := (HU.out wr hbel2).cellAt (r := i) (c := j) hi2 (by omega)
          obtain ⟨ba, oa, _, b1, o1, c1, he1, p1, p2, ub1, ub2⟩ := hq1
          obtain ⟨bb, ob, _, b2, o2, c2, he2, p3, p4, ub3, ub4⟩ := hq2
          simp only [Value.slice.injEq] at he1 he2
          obtain ⟨rfl, _, rfl⟩ := he1
          obtain ⟨rfl, _, rfl⟩ := he2
          have hj1 : (j : Int) < a.len i := by omega
          have hj2 : (j : Int) < b.len i := by omega
          have HMK := Lib.hid (show mkD (a.len 0) a.flat b.flat 0 (i * a.len 0 + (j + 1)) = LL ++ (if a.z i j = b.z i j then [] else [⟨(i : Int), (j : Int), a.z i j, b.z i j⟩]) from by
            rw [show i * a.len 0 + (j + 1) = (i * a.len 0 + j) + 1 by omega, mkD_snoc, eLL, Nat.zero_add]
            unfold mk1
            have hd := div_at i j (a.len 0) hjl
            rw [a.flat_at i j hjl, hd.1, hd.2, show b.flat (i * a.len 0 + j) = b.z i j from by rw [hlb]; exact b.flat_at i j (by omega)])
          obtain ⟨X, eX⟩ : ∃ X, a.z i j = X := ⟨_, rfl⟩
          obtain ⟨Y, eY⟩ : ∃ Y, b.z i j = Y := ⟨_, rfl⟩
          rw [eX, eY] at HMK
          rw [eX] at p2
          rw [eY] at p4
          rw [eLL] at HLF2 hsl
          subst hsl
          clear hlf2 eX eY eLL hlr hlr2 hlb
          by_cases hxy : X = Y
          · have hne : (X != Y) = false := by simpa using hxy
            clear hxy
            go_wp2_with fail
            go_quiet (fail)
            go_wp2
            go_roundw
            case rel => exact ⟨j + 1, _, by omega, by go_num, rfl, by rw [HMK.out, if_pos (by simpa using hne), List.append_nil]; exact HLF2.out.below (below_drewN (Below.refl wr.heap.size wr) _) (Nat.le_refl _), below_drewN HBW.out _⟩
            case measure => simp [intOf]; omega
          · have hne : (X != Y) = true := by simpa using hxy
            rw [if_neg hxy] at HMK
            clear hxy
            go_wp2_with fail
            go_quiet (fail)
            have HBW2 := Lib.hid (below_drewN HBW.out nq)
            have HLF3 := Lib.hid (HLF2.out.below (below_drewN (Below.refl wr.heap.size wr) nq) (Nat.le_refl _))
            change wr.cell? _ = _ at p1 p2 p3 p4
            have z1 : (wr.drewN nq).cell? ⟨ba, oa + i, none⟩ = some (.slice (some ⟨b1, o1, none⟩) (a.len i) c1) := p1
            have z2 : (wr.drewN nq).cell? ⟨b1, o1 + j, none⟩ = some (.int .i64 X) := p2
            have z3 : (wr.drewN nq).cell? ⟨bb, ob + i, none⟩ = some (.slice (some ⟨b2, o2, none⟩) (b.len i) c2) := p3
            have z4 : (wr.drewN nq).cell? ⟨b2, o2 + j, none⟩ = some (.int .i64 Y) := p4
            generalize wr.drewN nq = wq at HBW2 HLF3 z1 z2 z3 z4 ⊢
            have HS := Lib.hid (fun (W : World) (hb : Below w.heap.size wq W) => show W.cell? ⟨ba, oa + i, none⟩ = some (.slice (some ⟨b1, o1, none⟩) (a.len i) c1) ∧ W.cell? ⟨b1, o1 + j, none⟩ = some (.int .i64 X) ∧ W.cell? ⟨bb, ob + i, none⟩ = some (.slice (some ⟨b2, o2, none⟩) (b.len i) c2) ∧ W.cell? ⟨b2, o2 + j, none⟩ = some (.int .i64 Y) from
              ⟨(hb.cell (p := ⟨ba, oa + i, none⟩) (by show ba < w.heap.size; omega)).trans z1, (hb.cell (p := ⟨b1, o1 + j, none⟩) (by show b1 < w.heap.size; omega)).trans z2, (hb.cell (p := ⟨bb, ob + i, none⟩) (by show bb < w.heap.size; omega)).trans z3, (hb.cell (p := ⟨b2, o2 + j, none⟩) (by show b2 < w.heap.size; omega)).trans z4⟩)
            have HBA := Lib.hid ((Below.refl w.heap.size wq).alloc HBW2.out.size (.cells #[.int .i64 i, .int .i64 j, .int .i64 X, .int .i64 Y] 63))
            have HNEW := Lib.hid (show (wq.drew.alloc (.cells #[.int .i64 i, .int .i64 j, .int .i64 X, .int .i64 Y] 63)).heap[wq.heap.size]? = some (.cells #[.int .i64 i, .int .i64 j, .int .i64 X, .int .i64 Y] 63 (0, 0)) from heap_alloc_new wq.drew _)
            have HLA := Lib.hid (show (wq.drew.alloc (.cells #[.int .i64 i, .int .i64 j, .int .i64 X, .int .i64 Y] 63)).ownsRow w.heap.size 63 4 (.slice uo LL.length cu) LL.length (nsV (fxN LL)) from World.ownsRow.alloc (show wq.drew.ownsRow _ _ _ _ _ _ from HLF3.out) _)
            clear p1 p2 p3 p4
            go_wp2_with fail
            refine wp_region_held_drew (S := (fun w' => w'.cell? ⟨ba, oa + i, none⟩ = some (.slice (some ⟨b1, o1, none⟩) (a.len i) c1) ∧ w'.cell? ⟨b1, o1 + j, none⟩ = some (.int .i64 X) ∧ w'.cell? ⟨bb, ob + i, none⟩ = some (.slice (some ⟨b2, o2, none⟩) (b.len i) c2) ∧ w'.cell? ⟨b2, o2 + j, none⟩ = some (.int .i64 Y))) (by kernel_rfl) ?_ (fun hHeld => ?_)
            · exact HS.out _ (below_un (Below.refl _ _))
            refine wpAnyH_take (i := 0) (v := ?_) (by simp only [List.getElem?_toArray, List.getElem?_cons_succ, List.getElem?_cons_zero]; exact rfl) (by kernel_rfl) (by kernel_rfl) (by kernel_rfl) (by exact fun _ _ _ h => h) (Or.inl ⟨by rfl, ?_⟩) (by assumption) ?_
            rotate_left
            · intro w hSw; (try dsimp only at hSw); go_simp; try with_reducible rfl
            try simp only [Act.put, List.setIfInBounds_toArray, List.set_cons_zero, List.set_cons_succ]
            refine wpAnyH_take (i := 1) (v := ?_) (by simp only [List.getElem?_toArray, List.getElem?_cons_succ, List.getElem?_cons_zero]; exact rfl) (by kernel_rfl) (by kernel_rfl) (by kernel_rfl) (by exact fun _ _ _ h => h) (Or.inl ⟨by rfl, ?_⟩) (by assumption) ?_
            rotate_left
            · intro w hSw; (try dsimp only at hSw); go_simp; try with_reducible rfl
            try simp only [Act.put, List.setIfInBounds_toArray, List.set_cons_zero, List.set_cons_succ]
            refine wpAnyH_take (i := 2) (v := ?_) (by simp only [List.getElem?_toArray, List.getElem?_cons_succ, List.getElem?_cons_zero]; exact rfl) (by kernel_rfl) (by kernel_rfl) (by kernel_rfl) (by exact fun _ _ _ h => h) (Or.inl ⟨by rfl, ?_⟩) (by assumption) ?_
            rotate_left
            · intro w hSw; (try dsimp only at hSw); go_simp; try with_reducible rfl
            try simp only [Act.put, List.setIfInBounds_toArray, List.set_cons_zero, List.set_cons_succ]
            refine wpAnyH_take (i := 3) (v := ?_) (by simp only [List.getElem?_toArray, List.getElem?_cons_succ, List.getElem?_cons_zero]; exact rfl) (by kernel_rfl) (by kernel_rfl) (by kernel_rfl) (by exact fun _ _ _ h => h) (Or.inl ⟨by rfl, ?_⟩) (by assumption) ?_
            rotate_left
            · intro w hSw; (try dsimp only at hSw); go_simp; try with_reducible rfl
            try simp only [Act.put, List.setIfInBounds_toArray, List.set_cons_zero, List.set_cons_succ]
            refine wpAnyH_take (i := 4) (v := ?_) (by simp only [List.getElem?_toArray, List.getElem?_cons_succ, List.getElem?_cons_zero]; exact rfl) (by kernel_rfl) (by kernel_rfl) (by kernel_rfl) (by exact fun _ _ _ h => h) (Or.inl ⟨by rfl, ?_⟩) (by assumption) ?_
            rotate_left
            · intro w hSw; (try dsimp only at hSw); go_simp; try with_reducible rfl
            try simp only [Act.put, List.setIfInBounds_toArray, List.set_cons_zero, List.set_cons_succ]
            refine wpAnyH_take (i := 5) (v := ?_) (by simp only [List.getElem?_toArray, List.getElem?_cons_succ, List.getElem?_cons_zero]; exact rfl) (by kernel_rfl) (by kernel_rfl) (by kernel_rfl) (by exact fun _ _ _ h => h) (Or.inl ⟨by rfl, ?_⟩) (by assumption) ?_
            rotate_left
            · intro w hSw; (try dsimp only at hSw); go_simp; try with_reducible rfl
            try simp only [Act.put, List.setIfInBounds_toArray, List.set_cons_zero, List.set_cons_succ]
            refine wpAnyH_take (i := 6) (v := ?_) (by simp only [List.getElem?_toArray, List.getElem?_cons_succ, List.getElem?_cons_zero]; exact rfl) (by kernel_rfl) (by kernel_rfl) (by kernel_rfl) (by exact fun _ _ _ h => h) (Or.inl ⟨by rfl, ?_⟩) (by assumption) ?_
            rotate_left
            · intro w hSw; (try dsimp only at hSw); go_simp; try with_reducible rfl
            try simp only [Act.put, List.setIfInBounds_toArray, List.set_cons_zero, List.set_cons_succ]
            refine wpAnyH_take (i := 7) (v := ?_) (by simp only [List.getElem?_toArray, List.getElem?_cons_succ, List.getElem?_cons_zero]; exact rfl) (by kernel_rfl) (by kernel_rfl) (by kernel_rfl) (by exact fun _ _ _ h => h) (Or.inl ⟨by rfl, ?_⟩) (by assumption) ?_
            rotate_left
            · intro w hSw; (try dsimp only at hSw); go_simp; try with_reducible rfl
            try simp only [Act.put, List.setIfInBounds_toArray, List.set_cons_zero, List.set_cons_succ]
            refine wpAnyH_take (i := 8) (v := ?_) (by simp only [List.getElem?_toArray, List.getElem?_cons_succ, List.getElem?_cons_zero]; exact rfl) (by kernel_rfl) (by kernel_rfl) (by kernel_rfl) (by exact fun _ _ _ h => h) (Or.inl ⟨by rfl, ?_⟩) (by assumption) ?_
            rotate_left
            · intro w hSw; (try dsimp only at hSw); go_simp; try with_reducible rfl
            try simp only [Act.put, List.setIfInBounds_toArray, List.set_cons_zero, List.set_cons_succ]
            refine wpAnyH_take (i := 9) (v := ?_) (by simp only [List.getElem?_toArray, List.getElem?_cons_succ, List.getElem?_cons_zero]; exact rfl) (by kernel_rfl) (by kernel_rfl) (by kernel_rfl) (by exact fun _ _ _ h => h) (Or.inl ⟨by rfl, ?_⟩) (by assumption) ?_
            rotate_left
            · intro w hSw; (try dsimp only at hSw); go_simp; try with_reducible rfl
            try simp only [Act.put, List.setIfInBounds_toArray, List.set_cons_zero, List.set_cons_succ]
            refine wpAnyH_take (i := 10) (v := ?_) (by simp only [List.getElem?_toArray, List.getElem?_cons_succ, List.getElem?_cons_zero]; exact rfl) (by kernel_rfl) (by kernel_rfl) (by kernel_rfl) (by exact fun _ _ _ h => h) (Or.inl ⟨by rfl, ?_⟩) (by assumption) ?_
            rotate_left
            · intro w hSw; (try dsimp only at hSw); go_simp; try with_reducible rfl
            try simp only [Act.put, List.setIfInBounds_toArray, List.set_cons_zero, List.set_cons_succ]
            refine wpAnyH_take (i := 11) (v := ?_) (by simp only [List.getElem?_toArray, List.getElem?_cons_succ, List.getElem?_cons_zero]; exact rfl) (by kernel_rfl) (by kernel_rfl) (by kernel_rfl) (by exact fun _ _ _ h => h) (Or.inl ⟨by rfl, ?_⟩) (by assumption) ?_
            rotate_left
            · intro w hSw; (try dsimp only at hSw); go_simp; try with_reducible rfl
            try simp only [Act.put, List.setIfInBounds_toArray, List.set_cons_zero, List.set_cons_succ]
            refine wpAnyH_take (i := 12) (v := ?_) (by simp only [List.getElem?_toArray, List.getElem?_cons_succ, List.getElem?_cons_zero]; exact rfl) (by kernel_rfl) (by kernel_rfl) (by kernel_rfl) (by exact fun _ _ _ h => h) (Or.inl ⟨by rfl, ?_⟩) (by assumption) ?_
            rotate_left
            · intro w hSw; (try dsimp only at hSw); go_simp; try with_reducible rfl
            try simp only [Act.put, List.setIfInBounds_toArray, List.set_cons_zero, List.set_cons_succ]
            refine wpAnyH_take (i := 13) (v := ?_) (by simp only [List.getElem?_toArray, List.getElem?_cons_succ, List.getElem?_cons_zero]; exact rfl) (by kernel_rfl) (by kernel_rfl) (by kernel_rfl) (by exact fun _ _ _ h => h) (Or.inl ⟨by rfl, ?_⟩) (by assumption) ?_
            rotate_left
            · intro w hSw; (try dsimp only at hSw); go_simp; try with_reducible rfl
            try simp only [Act.put, List.setIfInBounds_toArray, List.set_cons_zero, List.set_cons_succ]
            refine wpAnyH_take (i := 14) (v := ?_) (by simp only [List.getElem?_toArray, List.getElem?_cons_succ, List.getElem?_cons_zero]; exact rfl) (by kernel_rfl) (by kernel_rfl) (by kernel_rfl) (by exact fun _ _ _ h => h) (Or.inl ⟨by rfl, ?_⟩) (by assumption) ?_
            rotate_left
            · intro w hSw; (try dsimp only at hSw); go_simp; try with_reducible rfl
            try simp only [Act.put, List.setIfInBounds_toArray, List.set_cons_zero, List.set_cons_succ]
            refine wpAnyH_take (i := 15) (v := ?_) (by simp only [List.getElem?_toArray, List.getElem?_cons_succ, List.getElem?_cons_zero]; exact rfl) (by kernel_rfl) (by kernel_rfl) (by kernel_rfl) (by exact fun _ _ _ h => h) (Or.inl ⟨by rfl, ?_⟩) (by assumption) ?_
            rotate_left
            · intro w hSw; (try dsimp only at hSw); go_simp; try with_reducible rfl
            try simp only [Act.put, List.setIfInBounds_toArray, List.set_cons_zero, List.set_cons_succ]
            refine wpAnyH_take (i := 16) (v := ?_) (by simp only [List.getElem?_toArray, List.getElem?_cons_succ, List.getElem?_cons_zero]; exact rfl) (by kernel_rfl) (by kernel_rfl) (by kernel_rfl) (by exact fun _ _ _ h => h) (Or.inl ⟨by rfl, ?_⟩) (by assumption) ?_
            rotate_left
            · intro w hSw; (try dsimp only at hSw); go_simp; try with_reducible rfl
            try simp only [Act.put, List.setIfInBounds_toArray, List.set_cons_zero, List.set_cons_succ]
            refine wpAnyH_take (i := 17) (v := ?_) (by simp only [List.getElem?_toArray, List.getElem?_cons_succ, List.getElem?_cons_zero]; exact rfl) (by kernel_rfl) (by kernel_rfl) (by kernel_rfl) (by exact fun _ _ _ h => h) (Or.inl ⟨by rfl, ?_⟩) (by assumption) ?_
            rotate_left
            · intro w hSw; (try dsimp only at hSw); go_simp; try with_reducible rfl
            try simp only [Act.put, List.setIfInBounds_toArray, List.set_cons_zero, List.set_cons_succ]
            refine wpAnyH_ready (rs := [18]) (by kernel_rfl) (by simp) ?_
            refine AllReadyH.cons (by simp only [List.getElem?_toArray, List.getElem?_cons_succ, List.getElem?_cons_zero]; exact rfl) (fun K hK => ?_) AllReadyH.nil
            go_simp
            refine hK.out _ _ ?_ (fun hHeld2 => ?_)
            · exact HS.out _ (below_un' HBA.out)
            clear hK K
            try simp only [Act.put, List.setIfInBounds_toArray, List.set_cons_zero, List.set_cons_succ]
            refine wpAnyH_ready (rs := [19]) (by kernel_rfl) (by simp) ?_
            refine AllReadyH.cons (by simp only [List.getElem?_toArray, List.getElem?_cons_succ, List.getElem?_cons_zero]; exact rfl) (fun K hK => ?_) AllReadyH.nil
            refine step_append_lies _ (by rfl) _ _ _ (by rfl) w.heap.size 63 i0 _ 4 32 Try.underlying30 hi0 hz0 hz1 hz2 rfl (by omega) (.slice uo LL.length cu) LL.length (nsV (fxN LL)) (by rfl) (HLA.out) ⟨wq.heap.size, 0, none⟩ 1 1 [.int .i64 i, .int .i64 j, .int .i64 X, .int .i64 Y] (by rfl) (by rfl) (World.news_of_block (cs := #[.int .i64 i, .int .i64 j, .int .i64 X, .int .i64 Y]) (t := 63) (fr := (0, 0)) HNEW.out) (by simp [Value.oneCell']) (by omega) (by unfold maxLen; omega) (by have := fx_len4 LL; omega) (by have := HBW2.out.size; simp; omega) (wq.heap.size + 1) (by simp) ?_
            intro g' cap' w1 hown1 hgrow hat hlt1
            have HBQ := Lib.hid (show Below w.heap.size wq w1 from ((below_un (Below.refl w.heap.size wq)).alloc HBW2.out.size _).grown hgrow (by have := HBW2.out.size; simp; omega) (fun q hq => (HLA.out.lt q hq).1))
            have HBG := Lib.hid (HBW2.out.trans HBQ.out)
            have HLN := Lib.hid (Lf.push hown1)
            clear hown1 hgrow hat
            refine hK.out _ _ ?_ (fun hHeld3 => ?_)
            · exact HS.out _ HBQ.out
            clear hK K
            try simp only [Act.put, List.setIfInBounds_toArray, List.set_cons_zero, List.set_cons_succ]
            refine wpAnyH_take (i := 20) (v := ?_) (by simp only [List.getElem?_toArray, List.getElem?_cons_succ, List.getElem?_cons_zero]; exact rfl) (by kernel_rfl) (by kernel_rfl) (by kernel_rfl) (by exact fun _ _ _ h => h) (Or.inl ⟨by rfl, ?_⟩) (by assumption) ?_
            rotate_left
            · intro w hSw; (try dsimp only at hSw); go_simp; try with_reducible rfl
            try simp only [Act.put, List.setIfInBounds_toArray, List.set_cons_zero, List.set_cons_succ]
            refine wpAnyH_done (by kernel_rfl) ?_ _
            clear hHeld3 hHeld2
            go_wp2
            go_roundw
            case rel => exact ⟨j + 1, _, by omega, by go_num, rfl, by rw [HMK.out]; exact HLN.out, HBG.out⟩
            case measure => simp [intOf]; omega
        · obtain rfl : j = a.len 0 := by omega
          rw [eLL] at HLF2 hsl
          have HNX := Lib.hid (show mkD (a.len 0) a.flat b.flat 0 ((i + 1) * a.len 0) = LL by rw [Nat.add_mul, Nat.one_mul]; exact eLL)
          obtain ⟨ba, oa, _, b1, o1, c1, he1, p1, _, _, _⟩ := (HV.out wr hbel2).cellAt (r := i) (c := 0) hlt (by omega)
          simp only [Value.slice.injEq] at he1
          obtain ⟨rfl, _, rfl⟩ := he1
          have hj1 : ¬ ((a.len 0 : Nat) : Int) < a.len i := by omega
          subst hsl
          clear hlf2 eLL
          go_wp2
          go_roundw
          case rel => exact ⟨i + 1, _, by omega, by go_num, rfl, by rw [HNX.out]; exact HLF2.out, HBW.out⟩
          case measure => simp [intOf]; omega
    · obtain rfl : i = a.n := by omega
      obtain ⟨sa, sc, hs⟩ := HLF.out.shape
      go_wp2
      go_ret2
      refine ⟨x, ?_, ⟨_, _, _, hs⟩, ?_, HBL.out⟩
      · rw [HBN.out]; rfl
      · rw [HE.out]; exact HLF.out

end Go.Proofs.Ytidlloelinmnnaa
