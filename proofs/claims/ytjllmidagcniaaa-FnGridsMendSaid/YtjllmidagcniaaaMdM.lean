/- Two grids mended along their common side: what is reckoned. -/
import Derived.Test.YtjllmidagcniaaaGpS
namespace Go.Proofs.Ytjllmidagcniaaa
open Go.RowKit
set_option linter.unusedVariables false

/-- half of the sum at the common side -/
def midV (a b : G) (r : Nat) : Int := (a.z r (a.len 0 - 1) + b.z r 0) / 2
theorem mid_range {a b : G} (h : RwOk a b) {r : Nat} (hr : r < a.n) : 0 ≤ midV a b r ∧ midV a b r ≤ 99 := by
  obtain ⟨ha, hb, hn⟩ := h
  have h1 := (ha.2.2 r hr).2 (a.len 0 - 1) (by have := (ha.2.2 r hr).1; have := ha.2.1.1; omega)
  have h2 := (hb.2.2 r (by omega)).2 0 (by have := (hb.2.2 r (by omega)).1; have := hb.2.1.1; omega)
  unfold midV; omega
/-- the western and the eastern grid, the rows below k mended -/
def mdA (a b : G) (k : Nat) : G := { n := a.n, len := a.len, z := fun r c => if r < k ∧ c = a.len 0 - 1 then midV a b r else a.z r c }
def mdB (a b : G) (k : Nat) : G := { n := b.n, len := b.len, z := fun r c => if r < k ∧ c = 0 then midV a b r else b.z r c }
theorem mdA_zero (a b : G) : mdA a b 0 = a := by
  unfold mdA
  have : (fun r c => if r < 0 ∧ c = a.len 0 - 1 then midV a b r else a.z r c) = a.z := by funext r c; simp
  rw [this]
theorem mdB_zero (a b : G) : mdB a b 0 = b := by
  unfold mdB
  have : (fun r c => if r < 0 ∧ c = 0 then midV a b r else b.z r c) = b.z := by funext r c; simp
  rw [this]
theorem upd_z {k : Nat} {e : Nat} {m : Nat → Int} {z : Nat → Nat → Int} : (fun i j => if i = k ∧ j = e then m k else if i < k ∧ j = e then m i else z i j) = fun r c => if r < k + 1 ∧ c = e then m r else z r c := by
  funext i j
  by_cases ej : j = e
  · by_cases ei : i = k
    · subst ei; simp [ej]
    · by_cases el : i < k
      · simp [ej, ei, el, Nat.lt_succ_of_lt el]
      · have : ¬ i < k + 1 := by omega
        simp [ei, el, this]
  · simp [ej]
theorem mdA_succ (a b : G) (k : Nat) : (mdA a b k).upd k (a.len 0 - 1) (midV a b k) = mdA a b (k + 1) := by
  unfold mdA G.upd
  simp only
  rw [upd_z]
theorem mdB_succ (a b : G) (k : Nat) : (mdB a b k).upd k 0 (midV a b k) = mdB a b (k + 1) := by
  unfold mdB G.upd
  simp only
  rw [upd_z]
theorem mdA_valid {a b : G} (h : RwOk a b) (k : Nat) : (mdA a b k).Valid := by
  refine ⟨h.1.1, h.1.2.1, fun r hr => ⟨(h.1.2.2 r hr).1, fun c hc => ?_⟩⟩
  show 0 ≤ (if r < k ∧ c = a.len 0 - 1 then midV a b r else a.z r c) ∧ (if r < k ∧ c = a.len 0 - 1 then midV a b r else a.z r c) ≤ 99
  split
  · exact mid_range h hr
  · exact (h.1.2.2 r hr).2 c hc
theorem mdB_valid {a b : G} (h : RwOk a b) (k : Nat) : (mdB a b k).Valid := by
  refine ⟨h.2.1.1, h.2.1.2.1, fun r hr => ⟨(h.2.1.2.2 r hr).1, fun c hc => ?_⟩⟩
  show 0 ≤ (if r < k ∧ c = 0 then midV a b r else b.z r c) ∧ (if r < k ∧ c = 0 then midV a b r else b.z r c) ≤ 99
  split
  · exact mid_range h (by have := h.2.2; have hr' : r < b.n := hr; omega)
  · exact (h.2.1.2.2 r hr).2 c hc
/-- flat: one number changes -/
theorem mdA_flat {a b : G} {k i : Nat} (hC : 1 ≤ a.len 0) : (mdA a b (k + 1)).flat i = if i = k * a.len 0 + (a.len 0 - 1) then midV a b k else (mdA a b k).flat i := by
  show (mdA a b (k + 1)).z (i / a.len 0) (i % a.len 0) = _
  rw [← mdA_succ]
  show (if i / a.len 0 = k ∧ i % a.len 0 = a.len 0 - 1 then midV a b k else (mdA a b k).z (i / a.len 0) (i % a.len 0)) = _
  by_cases e : i = k * a.len 0 + (a.len 0 - 1)
  · have := div_at k (a.len 0 - 1) (a.len 0) (by omega)
    rw [if_pos e, e, if_pos this]
  · rw [if_neg e, if_neg]
    · rfl
    · rintro ⟨h1, h2⟩
      have := Nat.div_add_mod i (a.len 0)
      rw [h1, h2, Nat.mul_comm] at this
      omega
theorem mdB_flat {a b : G} {k i : Nat} (hC : 1 ≤ b.len 0) : (mdB a b (k + 1)).flat i = if i = k * b.len 0 then midV a b k else (mdB a b k).flat i := by
  show (mdB a b (k + 1)).z (i / b.len 0) (i % b.len 0) = _
  rw [← mdB_succ]
  show (if i / b.len 0 = k ∧ i % b.len 0 = 0 then midV a b k else (mdB a b k).z (i / b.len 0) (i % b.len 0)) = _
  by_cases e : i = k * b.len 0
  · have := div_at k 0 (b.len 0) (by omega)
    rw [Nat.add_zero] at this
    rw [if_pos e, e, if_pos this]
  · rw [if_neg e, if_neg]
    · rfl
    · rintro ⟨h1, h2⟩
      have := Nat.div_add_mod i (b.len 0)
      rw [h1, h2, Nat.mul_comm] at this
      omega

/-- a grid that was built, and a store that meets none of its blocks -/
theorem Gr.other {w wr : World} {v : Value} {k B : Nat} {RV : Nat → Value} {g : G} (h : Gr w wr v k B RV g) {p : Addr} (hp : w.heap.size ≤ p.block) (h1 : v.ownBlock ≠ some p.block) (h2 : ∀ r, r < k → (RV r).ownBlock ≠ some p.block) (x : Value) : Gr w (wr.setCell p x) v k B RV g := by
  obtain ⟨a1, a2, a3, a4, a5, a6, a7⟩ := h
  refine ⟨a1.setCell hp x, a2, by simpa [World.setCell] using a3, ownsRow_setCell_other a4 h1 x, a5, fun r hr => ?_, a7⟩
  obtain ⟨ys, k1, k2, k3⟩ := a6 r hr
  exact ⟨ys, ownsRow_setCell_other k1 (h2 r hr) x, k2, k3⟩
theorem Gr.low {w w1 w2 : World} {v : Value} {k B : Nat} {RV : Nat → Value} {g : G} (h : Gr w1 w2 v k B RV g) (hb : Below w.heap.size w w1) : Gr w w2 v k B RV g :=
  ⟨hb.trans (h.below.mono hb.size), Nat.le_trans hb.size h.lo, h.hi, ownsRow_low h.top hb.size, h.topB, fun r hr => by
    obtain ⟨ys, k1, k2, k3⟩ := h.rows r hr
    exact ⟨ys, ownsRow_low k1 hb.size, k2, k3⟩, h.inj⟩
theorem Gr.lows {w wr : World} {v : Value} {k B : Nat} {RV : Nat → Value} {g : G} (h : Gr w wr v k B RV g) : (∀ x, v.ownBlock = some x → w.heap.size ≤ x) ∧ ∀ r, r < k → ∀ x, (RV r).ownBlock = some x → w.heap.size ≤ x :=
  ⟨fun x hx => (h.top.lt x hx).1, fun r hr x hx => by
    obtain ⟨ys, k1, _, _⟩ := h.rows r hr
    exact (k1.lt x hx).1⟩
theorem Gr.ups {w wr : World} {v : Value} {k B : Nat} {RV : Nat → Value} {g : G} (h : Gr w wr v k B RV g) : (∀ x, v.ownBlock = some x → x < B) ∧ ∀ r, r < k → ∀ x, (RV r).ownBlock = some x → x < B :=
  ⟨h.topB, fun r hr => by
    obtain ⟨ys, _, k2, _⟩ := h.rows r hr
    exact k2⟩
theorem Gr.drewN {w wr : World} {v : Value} {k B : Nat} {RV : Nat → Value} {g : G} (h : Gr w wr v k B RV g) (n : Nat) : Gr w (wr.drewN n) v k B RV g := h.keep (below_drewN (Below.refl _ _) n)

/-- two grids and a bool to read -/
def SPost2 (b : Bool) (g h : G) (w : World) (e : Ending) (w' : World) : Prop :=
  ∃ v u, e = .returned (.tuple #[v, u, .bool b]) ∧ (∃ a l c, v = .slice a l c) ∧ (∃ a l c, u = .slice a l c) ∧ RdM w.heap.size w'.heap.size w' v g ∧ RdM w.heap.size w'.heap.size w' u h ∧ Below w.heap.size w w'
/-- two grids of their own, one ahead of the other, and a bool -/
def GPost2 (b : Bool) (g h : G) (w : World) (e : Ending) (w' : World) : Prop :=
  ∃ v u m, e = .returned (.tuple #[v, u, .bool b]) ∧ (∃ a l c, v = .slice a l c) ∧ (∃ a l c, u = .slice a l c) ∧ w.heap.size ≤ m ∧ m ≤ w'.heap.size ∧ OwM w.heap.size m w' v g ∧ OwM m w'.heap.size w' u h ∧ Below w.heap.size w w'

set_option maxHeartbeats 2000000 in
theorem specGridsMend_no (v u : Value) (lo hi : Nat) (a b : G) (w : World) (hv : RdM lo hi w v a) (hu : RdM lo hi w u b) (h : ¬ RwOk a b) :
    Calls Try.prog 27 #[v, u] w (SPost2 false G0 G0 w) := by
  have HA := Lib.hid (l7Rows_any v u lo hi a b w hv hu)
  have HE := Lib.hid (rwB_no h)
  clear hv hu h
  go_enter Try.func27, Try.ntmps27
  go_wp2_with fail
  refine HA.out.mono ?_
  rintro e w1 ⟨rfl, k1, rfl⟩
  rw [HE.out]
  go_wp2
  go_ret3
  exact ⟨_, _, rfl, ⟨_, _, _, rfl⟩, ⟨_, _, _, rfl⟩, RdM.empty _ _ _ _ _ (by omega), RdM.empty _ _ _ _ _ (by omega), ((below_drewN (Below.refl w.heap.size w) k1).alloc (by simp) _).alloc (by simp) _⟩

set_option maxHeartbeats 4000000 in
set_option maxRecDepth 20000 in
theorem specGridsMend_yes (v u : Value) (lo hi : Nat) (a b : G) (w : World) (hv : RdM lo hi w v a) (hu : RdM lo hi w u b) (hh : hi ≤ w.heap.size) (h : RwOk a b) :
    Calls Try.prog 27 #[v, u] w (SPost2 true (mdA a b a.n) (mdB a b a.n) w) := by
  have HA := Lib.hid (l7Rows_any v u lo hi a b w hv hu)
  have HE := Lib.hid (rwB_yes h)
  have HH := Lib.hid h
  have HCA := Lib.hid (fun (W : World) (hb : Below w.heap.size w W) => l1Copy_any v lo hi a W (hv.same (SameIn.below hb hh)) (Nat.le_trans hh hb.size) (by have := h.1.1; omega) (fun r hr => by have := (h.1.2.2 r hr).1; have := h.1.2.1; omega))
  have HCB := Lib.hid (fun (W : World) (hb : Below w.heap.size w W) => l1Copy_any u lo hi b W (hu.same (SameIn.below hb hh)) (Nat.le_trans hh hb.size) (by have := h.2.1.1; omega) (fun r hr => by have := (h.2.1.2.2 r hr).1; have := h.2.1.2.1; omega))
  have HV := Lib.hid (fun (W : World) (hb : Below w.heap.size w W) (r : Nat) (hr : r < a.n) => (hv.same (SameIn.below hb hh)).cellAt (r := r) (c := a.len 0 - 1) hr (by have := h.1.2.2 r hr; have := h.1.2.1.1; omega))
  have HU := Lib.hid (fun (W : World) (hb : Below w.heap.size w W) (r : Nat) (hr : r < a.n) => (hu.same (SameIn.below hb hh)).cellAt (r := r) (c := 0) (by have := h.2.2; omega) (by have := h.2.1.2.2 r (by have := h.2.2; omega); have := h.2.1.2.1.1; omega))
  have hn7 := h.1.1.2
  obtain ⟨b0, of0, cap0, _, _, _, rfl, _, _, _, _⟩ := hv.cellAt (r := 0) (c := 0) (by have := h.1.1.1; omega) (by have := h.1.2.1.1; omega)
  obtain ⟨b1, of1, cap1, _, _, _, rfl, _, _, _, _⟩ := hu.cellAt (r := 0) (c := 0) (by have := h.2.1.1.1; omega) (by have := h.2.1.2.1.1; omega)
  clear h hv hu
  go_enter Try.func27, Try.ntmps27
  go_wp2_with fail
  refine HA.out.mono ?_
  rintro e w1 ⟨rfl, k1, rfl⟩
  rw [HE.out]
  go_wp2_with fail
  refine (HCA.out _ (below_drewN (Below.refl _ _) _)).mono ?_
  rintro e w2 ⟨vx, Bx, RX, rfl, hx⟩
  have HX := Lib.hid (hx.low (w := w) (below_drewN (Below.refl _ _) _))
  clear hx
  go_wp2_with fail
  refine (HCB.out _ HX.out.below).mono ?_
  rintro e w3 ⟨vy, By, RY, rfl, hy⟩
  have HX2 := Lib.hid (HX.out.keep (hy.below.mono HX.out.hi))
  have HY2 := Lib.hid (hy.low HX.out.below)
  have HYL := Lib.hid hy.lows
  have hBx := HX.out.hi
  clear hy
  go_wp2
  go_loopw [9] (fun i wr => ∃ r : Nat, r ≤ a.n ∧ i = .int .i64 r ∧ Gr w wr vx a.n Bx RX (mdA a b r) ∧ Gr w wr vy b.n By RY (mdB a b r)) (fun i _ => a.n - (intOf i).toNat)
  case atStart => exact ⟨0, Nat.zero_le _, rfl, by rw [mdA_zero]; exact HX2.out, by rw [mdB_zero]; exact HY2.out⟩
  case round =>
    obtain ⟨r, hr, rfl, hgx, hgy⟩ := hrel
    by_cases hlt : r < a.n
    · have hltb : r < b.n := by have := HH.out.2.2; omega
      have hlt' : (r : Int) < a.n := by omega
      have hltb' : (r : Int) < b.n := by omega
      have hlr : a.len r = a.len 0 := (HH.out.1.2.2 r hlt).1
      have hlb : b.len r = b.len 0 := (HH.out.2.1.2.2 r hltb).1
      have hl1 := HH.out.1.2.1.1
      have hl7 := HH.out.1.2.1.2
      have hm1 := HH.out.2.1.2.1.1
      have hm7 := HH.out.2.1.2.1.2
      obtain ⟨x1, y1, z1, c1, d1, cp1, e1, p1, p2, _, _⟩ := HV.out wr hgx.below r hlt
      simp only [Value.slice.injEq, Option.some.injEq, Addr.mk.injEq, and_true, true_and] at e1
      obtain ⟨⟨rfl, rfl⟩, rfl⟩ := e1
      obtain ⟨x1, y1, z1, c2, d2, cp2, e1, p3, p4, _, _⟩ := HU.out wr hgx.below r hlt
      simp only [Value.slice.injEq, Option.some.injEq, Addr.mk.injEq, and_true, true_and] at e1
      obtain ⟨⟨rfl, rfl⟩, rfl⟩ := e1
      rw [hlr] at p1
      rw [hlb] at p3
      have p4' : wr.cell? ⟨c2, d2, none⟩ = some (.int .i64 (b.z r 0)) := by simpa using p4
      have za := (HH.out.1.2.2 r hlt).2 (a.len 0 - 1) (by omega)
      have zb := (HH.out.2.1.2.2 r hltb).2 0 (by omega)
      have hM : midV a b r = (a.z r (a.len 0 - 1) + b.z r 0) / 2 := rfl
      have hmr := mid_range HH.out hlt
      obtain ⟨A, hA⟩ : ∃ A, a.z r (a.len 0 - 1) = A := ⟨_, rfl⟩
      obtain ⟨B, hB⟩ : ∃ B, b.z r 0 = B := ⟨_, rfl⟩
      rw [hA] at p2 za hM
      rw [hB] at p4' zb hM
      rw [hM] at hmr
      have HM := Lib.hid hM
      have hi1 : (0 : Int) ≤ (a.len 0 : Int) - 1 := by omega
      have hi2 : ((a.len 0 : Int) - 1).toNat = a.len 0 - 1 := by omega
      have hi3 : (a.len 0 : Int) - 1 < a.len 0 := by omega
      have hb0 : 0 < b.len 0 := by omega
      have hb0' : (0 : Int) < b.len 0 := by omega
      have hS : IntKind.i64.wrap (A + B) = A + B := IntWalk.i64_in _ (by omega)
      have hS1 : IntKind.i64.wrap ((A + B) / 2) = (A + B) / 2 := IntWalk.i64_in _ (by omega)
      have hS2 : (A + B).tdiv 2 = (A + B) / 2 := Int.tdiv_eq_ediv_of_nonneg (by omega)
      have hS3 : IntKind.i64.wrap ((a.len 0 : Int) - 1) = (a.len 0 : Int) - 1 := IntWalk.i64_in _ (by omega)
      have hcx : a.len 0 - 1 < (mdA a b r).len r := by show _ < a.len r; omega
      have hcy : 0 < (mdB a b r).len r := by show _ < b.len r; omega
      obtain ⟨gx, capx, bx, cx, rfl, hRX, x1, x2, x3⟩ := hgx.cellAt hlt hcx
      obtain ⟨gy, capy, by', cy, rfl, hRY, y1, y2, y3⟩ := hgy.cellAt hltb hcy
      rw [show (mdA a b r).len r = a.len 0 from hlr] at x1
      rw [show (mdB a b r).len r = b.len 0 from hlb] at y1
      have l1 := HYL.out.1 gy rfl
      have l2 := HYL.out.2 r hltb by' (by rw [hRY]; rfl)
      have l3 := hgx.ups.2 r hlt bx (by rw [hRX]; rfl)
      have l4 := hgx.ups.1 gx rfl
      have l5 := hgx.lows.2 r hlt bx (by rw [hRX]; rfl)
      have l6 := hgy.lows.2 r hltb by' (by rw [hRY]; rfl)
      have ne1 : gy ≠ bx := by omega
      have ne2 : by' ≠ bx := by omega
      have hYO := Lib.hid (fun s (hs : s < b.n) => (show (RY s).ownBlock ≠ some bx from fun e => by have := HYL.out.2 s hs bx e; omega))
      have hXO := Lib.hid (fun s (hs : s < a.n) => (show (RX s).ownBlock ≠ some by' from fun e => by have := hgx.ups.2 s hs by' e; omega))
      have HXT := Lib.hid (show (Value.slice (some ⟨gx, 0, none⟩) a.n capx).ownBlock ≠ some by' from fun e => by have := hgx.ups.1 by' e; omega)
      have HYT := Lib.hid (show (Value.slice (some ⟨gy, 0, none⟩) b.n capy).ownBlock ≠ some bx from fun e => by have := HYL.out.1 bx e; omega)
      have HL := Lib.hid (And.intro l5 l6)
      have HRX := Lib.hid hRX
      have HRY := Lib.hid hRY
      have HCX := Lib.hid hcx
      have HCY := Lib.hid hcy
      have HGX := Lib.hid hgx
      have HGY := Lib.hid hgy
      clear hRX hRY hcx hcy l1 l2 l3 l4 l5 l6
      have HLR := Lib.hid hlr
      have HLB := Lib.hid hlb
      clear hgx hgy hA hB hM p4 hlr hlb
      go_wp2_with fail
      go_quiet (fail)
      clear hS hS1 hS2 hS3
      go_wp2
      go_roundw
      case rel => exact ⟨r + 1, by omega, by go_num, by rw [← mdA_succ, HM.out]; exact ((HGX.out.drewN _).store hlt HCX.out HRX.out _).other HL.out.2 HXT.out hXO.out _, by rw [← mdB_succ, HM.out]; exact ((HGY.out.drewN _).other HL.out.1 HYT.out hYO.out _).store hltb HCY.out HRY.out _⟩
      case measure => simp [intOf]; omega
    · have e : r = a.n := by omega
      subst e
      have HM1 := Lib.hid (Gr.rdM (g := mdA a b a.n) hgx (G.range_of (mdA_valid HH.out _)))
      have HM2 := Lib.hid (Gr.rdM (g := mdB a b a.n) (show Gr w wr vy (mdB a b a.n).n By RY (mdB a b a.n) from hgy) (G.range_of (mdB_valid HH.out _)))
      have HB := Lib.hid hgx.below
      have hvx : ∃ a l c, vx = .slice a l c := by
        rcases hgx.top.2 with ⟨h', _⟩ | ⟨_, _, _, h', _⟩
        · exact ⟨_, _, _, h'⟩
        · exact ⟨_, _, _, h'⟩
      have hvy : ∃ a l c, vy = .slice a l c := by
        rcases hgy.top.2 with ⟨h', _⟩ | ⟨_, _, _, h', _⟩
        · exact ⟨_, _, _, h'⟩
        · exact ⟨_, _, _, h'⟩
      have HVX := Lib.hid hvx
      have HVY := Lib.hid hvy
      clear hgx hgy hvx hvy
      go_wp2
      go_ret3
      exact ⟨_, _, rfl, HVX.out, HVY.out, HM1.out, HM2.out, HB.out⟩

end Go.Proofs.Ytjllmidagcniaaa
