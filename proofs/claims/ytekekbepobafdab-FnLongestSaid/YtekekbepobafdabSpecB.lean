/- The model's functions that make a grid of a grid. -/
import Derived.Test.YtekekbepobafdabGr
import Derived.Test.YtekekbepobafdabImplF
namespace Go.Proofs.Ytekekbepobafdab
open Go.RowKit
set_option linter.unusedVariables false

/-- what a function of the model that answers a grid and a bool leaves -/
def SPost (b : Bool) (g : G) (w : World) (e : Ending) (w' : World) : Prop :=
  ∃ v, e = .returned (.tuple #[v, .bool b]) ∧ (∃ a l c, v = .slice a l c) ∧ RdM w.heap.size w'.heap.size w' v g ∧ Below w.heap.size w w'

theorem RdM.empty (lo hi : Nat) (w : World) (a : Option Addr) (c : Nat) (hc : c ≤ 9223372036854775807) : RdM lo hi w (.slice a 0 c) G0 :=
  ⟨a, c, 0, 0, fun _ => none, fun _ => 0, rfl, by simp [G0], hc, fun h => by simp [G0] at h, fun r hr => by simp [G0] at hr, fun r hr => by simp [G0] at hr⟩

theorem G.off_marked (g : G) (k : Int) : ∀ r, (g.mark k).off r = g.off r := by
  intro r
  induction r with
  | zero => rfl
  | succ r ih => simp only [G.off, ih]; rfl

theorem Gr.start (w : World) (RV : Nat → Value) (g : G) : Gr w (w.alloc (.cells #[] 28)) (.slice (some ⟨w.heap.size, 0, none⟩) 0 0) 0 (w.heap.size + 1) RV g := by
  refine ⟨(Below.refl _ _).alloc (Nat.le_refl _) _, by omega, by simp, ?_, fun b hb => by simp [Value.ownBlock] at hb; omega, fun r hr => by omega, fun r s hr => by omega⟩
  exact World.ownsRow_lit w #[] 0 (Nat.le_refl _) (Nat.zero_le _) (by simp)

theorem Rw.start (wr : World) (Z : Nat → Int) : Rw wr.heap.size (wr.alloc (.cells #[] 3)) (.slice (some ⟨wr.heap.size, 0, none⟩) 0 0) 0 Z :=
  ⟨[], World.ownsRow_lit wr #[] 0 (Nat.le_refl _) (Nat.zero_le _) (by simp), fun i hi => by omega⟩

theorem G.range_of {g : G} (h : g.Valid) : ∀ r, r < g.n → ∀ c, c < g.len r → -9223372036854775808 ≤ g.z r c ∧ g.z r c ≤ 9223372036854775807 := fun r hr c hc => by
  have := (h.2.2 r hr).2 c hc
  omega

theorem turn_valid {g : G} (h : g.Valid) : (turnG g).Valid :=
  ⟨h.2.1, h.1, fun r hr => ⟨rfl, fun c hc => valid_at h (by simp only [turnG] at hc; omega) hr⟩⟩
theorem mirror_valid {g : G} (h : g.Valid) : (mirrorG g).Valid :=
  ⟨h.1, h.2.1, fun r hr => ⟨rfl, fun c hc => valid_at h hr (by simp only [mirrorG] at hc; omega)⟩⟩
theorem invert_valid {g : G} (h : g.Valid) : (invertG g).Valid :=
  ⟨h.1, h.2.1, fun r hr => ⟨rfl, fun c hc => by have := valid_at h hr hc; simp only [invertG]; omega⟩⟩

set_option maxHeartbeats 1000000 in
set_option maxRecDepth 20000 in
theorem specGridTurn_no (v : Value) (lo hi : Nat) (g : G) (w : World) (hv : RdM lo hi w v g) (hh : hi ≤ w.heap.size) (h : ¬ g.Valid) :
    Calls Try.prog 15 #[v] w (SPost false G0 w) := by
  have HC := Lib.hid (fun o => specValid_any v lo hi g (w.alloc o) (hv.same (SameIn.below ((Below.refl _ _).alloc (Nat.le_refl _) o) hh)))
  have HB := Lib.hid (G.vB_no h)
  clear hv h
  go_enter Try.func15, Try.ntmps15
  go_wp2_with fail
  refine (HC.out _).mono ?_
  intro e w1 hq
  obtain ⟨rfl, hb⟩ := hq.below
  rw [HB.out]
  have HB1 := Lib.hid (((Below.refl w.heap.size w).alloc (Nat.le_refl _) (.cells #[] 28)).trans (hb.mono (by simp)))
  clear hb hq
  go_wp2
  go_ret2
  exact ⟨_, rfl, ⟨_, _, _, rfl⟩, RdM.empty _ _ _ _ _ (by omega), HB1.out⟩

set_option maxHeartbeats 4000000 in
set_option maxRecDepth 20000 in
theorem specGridTurn_yes (v : Value) (lo hi : Nat) (g : G) (w : World) (hv : RdM lo hi w v g) (hh : hi ≤ w.heap.size) (h : g.Valid) :
    Calls Try.prog 15 #[v] w (SPost true (turnG g) w) := by
  have HC := Lib.hid (fun o => specValid_any v lo hi g (w.alloc o) (hv.same (SameIn.below ((Below.refl _ _).alloc (Nat.le_refl _) o) hh)))
  have HB := Lib.hid (G.vB_yes h)
  have HH := Lib.hid h
  obtain ⟨i0, hi0, hz0, hz1, hz2⟩ := info_parts Try.infoI
  obtain ⟨i1, hi1, hy0, hy1, hy2⟩ := info_parts Try.infoR
  obtain ⟨ao, cap, b, off, Ao, Cp, rfl, a2, a3, a5, a6, a7⟩ := hv
  obtain ⟨rfl, hb1, hb2⟩ := a5 (by have := h.1; omega)
  have hn7 : g.n ≤ 7 := h.1.2
  have hn1 : 1 ≤ g.n := h.1.1
  have hl7 : g.len 0 ≤ 7 := h.2.1.2
  have hn0 : (0 : Int) < g.n := by omega
  have HA6 := Lib.hid a6
  have HA7 := Lib.hid a7
  clear h a5 a6 a7
  go_enter Try.func15, Try.ntmps15
  go_wp2_with fail
  refine (HC.out _).mono ?_
  intro e w1 hq
  obtain ⟨rfl, hb⟩ := hq.below
  rw [HB.out]
  have HG1 := Lib.hid ((Gr.start w (fun _ => undef) (turnG g)).keep (hb.mono (by simp)))
  clear hb hq
  go_wp2
  go_loopw [4, 5] (fun o i wr => ∃ (c : Nat) (v : Value) (B : Nat) (RV : Nat → Value), c ≤ g.len 0 ∧ i = .int .i64 c ∧ v = o ∧ Gr w wr v c B RV (turnG g)) (fun _ i _ => g.len 0 - (intOf i).toNat)
  case atStart => exact ⟨0, _, _, _, Nat.zero_le _, rfl, rfl, HG1.out⟩
  case round =>
    obtain ⟨c, v, B, RV, hc, rfl, rfl, hgr⟩ := hrel
    have HGR := Lib.hid hgr
    have q0 : wr.cell? ⟨b, off, none⟩ = some (.slice (Ao 0) (g.len 0) (Cp 0)) := by
      have := (hgr.below.cell (p := ⟨b, off + 0, none⟩) (by show b < _; omega)).trans (HA6.out 0 (by omega))
      simpa using this
    by_cases hlt : c < g.len 0
    · have hlt' : (c : Int) < g.len 0 := by omega
      have HGB := Lib.hid ((hgr.raise hgr.hi (Nat.le_refl _)).keep ((Below.refl _ _).alloc (Nat.le_refl _) (.cells #[] 3)))
      have HRW := Lib.hid (Rw.start wr ((turnG g).z c))
      clear hgr
      go_wp2
      generalize hB0 : wr.heap.size = B0 at HGB HRW ⊢
      clear q0
      obtain ⟨wo, rfl⟩ : ∃ wo : World, wo = wr := ⟨_, rfl⟩
      go_loopw [6, 7] (fun rv i wr => ∃ (m : Nat) (vr : Value), m ≤ g.n ∧ i = .int .i64 ((g.n : Int) - 1 - m) ∧ vr = rv ∧ Rw B0 wr vr m ((turnG g).z c) ∧ Gr w wr v c B0 RV (turnG g)) (fun _ i _ => (intOf i + 1).toNat)
      case atStart => exact ⟨0, _, Nat.zero_le _, by go_num, rfl, HRW.out, HGB.out⟩
      case round =>
        obtain ⟨m, vr, hm, rfl, rfl, hrw, hgr⟩ := hrel
        by_cases hml : m < g.n
        · obtain ⟨r, hr⟩ : ∃ r, r + m + 1 = g.n := ⟨g.n - 1 - m, by omega⟩
          have er : (g.n : Int) - 1 - m = (r : Int) := by omega
          rw [er]
          have ez : (turnG g).z c m = g.z r c := by simp only [turnG]; congr 1; omega
          have p1 : wr.cell? ⟨b, off + r, none⟩ = some (.slice (Ao r) (g.len r) (Cp r)) := (hgr.below.cell (p := ⟨b, off + r, none⟩) (by show b < _; omega)).trans (HA6.out r (by omega))
          obtain ⟨ao1, cap1, b1, off1, e1, i2, i3, i4, i5, i6⟩ := HA7.out r (by omega)
          have hlr : g.len r = g.len 0 := (HH.out.2.2 r (by omega)).1
          have hclr : c < g.len r := by omega
          have i5' := (i5 (by omega))
          have ea : Ao r = ao1 := by simp only [Value.slice.injEq] at e1; exact e1.1
          rw [ea, i5'.1] at p1
          have p2 : wr.cell? ⟨b1, off1 + c, none⟩ = some (.int .i64 (g.z r c)) := (hgr.below.cell (p := ⟨b1, off1 + c, none⟩) (by show b1 < _; omega)).trans (i6 c hclr)
          have hr' : (r : Int) < g.n := by omega
          have hc' : (c : Int) < g.len r := by omega
          obtain ⟨ys, hy1', hy2'⟩ := hrw
          have HGR2 := Lib.hid hgr
          have HY2 := Lib.hid hy2'
          have HEZ := Lib.hid ez
          have hB0s : B0 ≤ wr.heap.size := hgr.hi
          have HLR := Lib.hid hlr
          clear i4 i5 i6 e1 ea i5' hgr hy2' ez er hlr
          go_wp2_with (first | (at_builtin; refine wpList_append_own _ rfl _ _ 28 rfl B0 3 i0 (.int .i64 0) 1 8 Try.underlying28 hi0 hz0 hz1 hz2 rfl (by decide) _ m ys rfl (hy1'.alloc _) ⟨wr.heap.size, 0, none⟩ 1 1 [.int .i64 (g.z r c)] rfl rfl (World.news_of_block (cs := #[.int .i64 (g.z r c)]) (t := 3) (fr := (0, 0)) (heap_alloc_new wr _)) (by simp [Value.oneCell']) (by unfold maxLen; omega) (by omega) (by simp; omega) ?_; intro v' w2 hown2 hg2 _))
          have hlow : ∀ k, vr.ownBlock = some k → B0 ≤ k := fun k hk => (hy1'.lt k hk).1
          have hbel : Below B0 wr w2 := ((Below.refl B0 wr).alloc hB0s _).grown hg2 (by simp; omega) hlow
          have HG3 := Lib.hid (HGR2.out.keep hbel)
          have HR3 := Lib.hid (Rw.push (Z := (turnG g).z c) (by have := hy1'.1; omega) HY2.out (by rw [HEZ.out]; exact hown2))
          clear hbel hown2 hg2 hy1' hlow
          go_wp2
          go_roundw
          case rel => exact ⟨m + 1, v', by omega, by go_num, rfl, HR3.out, HG3.out⟩
          case measure => simp [intOf]
        · have em : m = g.n := by omega
          subst em
          obtain ⟨ys, hy1', hy2'⟩ := hrw
          have HGR2 := Lib.hid hgr
          obtain ⟨bq, cq, rfl⟩ : ∃ bq cq, vr = .slice (some ⟨bq, 0, none⟩) g.n cq := by
            obtain ⟨bq, cq, _, _, h3⟩ := own_slice hy1'
            rcases h3 with h3 | h3
            · exact ⟨bq, cq, h3.1⟩
            · omega
          have HRW2 : Hid (Rw B0 wr (.slice (some ⟨bq, 0, none⟩) g.n cq) ((turnG g).len c) ((turnG g).z c)) := ⟨ys, hy1', hy2'⟩
          have htop := hgr.top
          have hB0s : w.heap.size ≤ wr.heap.size := hgr.below.size
          clear hgr hy1' hy2'
          go_wp2_with (first | (at_builtin; refine wpList_append_own _ rfl _ _ 23 rfl w.heap.size 28 i1 (.slice none 0 0) 1 24 Try.underlying23 hi1 hy0 hy1 hy2 rfl (by decide) v c _ rfl (htop.alloc _) ⟨wr.heap.size, 0, none⟩ 1 1 [.slice (some ⟨bq, 0, none⟩) g.n cq] rfl rfl (World.news_of_block (cs := #[.slice (some ⟨bq, 0, none⟩) g.n cq]) (t := 28) (fr := (0, 0)) (heap_alloc_new wr _)) (by simp [Value.oneCell']) (by unfold maxLen; omega) (by omega) (by simp; omega) ?_; intro v' w2 hown2 hg2 _))
          have HG3 := Lib.hid (HGR2.out.push HRW2.out hown2 hg2)
          clear hown2 hg2 htop
          go_wp2
          go_roundw
          case rel => exact ⟨c + 1, v', _, _, by omega, by go_num, rfl, HG3.out⟩
          case measure => simp [intOf]; omega
    · have ec : c = g.len 0 := by omega
      subst ec
      obtain ⟨bq, cq, rfl⟩ : ∃ bq cq, v = .slice (some ⟨bq, 0, none⟩) (g.len 0) cq := by
        obtain ⟨bq, cq, _, _, h3⟩ := own_slice hgr.top
        rcases h3 with h3 | h3
        · exact ⟨bq, cq, h3.1⟩
        · have h := HH.out.2.1; omega
      have HM := Lib.hid (Gr.rdM (g := turnG g) hgr (G.range_of (turn_valid HH.out)))
      have HBL := Lib.hid hgr.below
      clear hgr
      go_wp2
      go_ret2
      exact ⟨_, rfl, ⟨_, _, _, rfl⟩, HM.out, HBL.out⟩

end Go.Proofs.Ytekekbepobafdab
