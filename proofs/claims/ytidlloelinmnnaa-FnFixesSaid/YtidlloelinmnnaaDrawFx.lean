/- The draw of a list of corrections. -/
import Derived.Test.YtidlloelinmnnaaDrawD
import Derived.Test.YtidlloelinmnnaaFs
import Derived.Test.YtidlloelinmnnaaPBase
import Derived.RegionTactic
import Derived.Maps.AppendAt
import Derived.Deep.RegionHeld3
namespace Go.Proofs.Ytidlloelinmnnaa
open Go.RowKit
set_option linter.unusedVariables false
set_option linter.unusedSimpArgs false

/-- while corrections are drawn: the list so far, the copy of the grid, the reader -/
structure Sm (B N0 R C bt cap : Nat) (Bf Cf : Nat → Nat) (vx : Value) (w wr : World) (vo : Value) (m q : Nat) (Z : Nat → Int) (g : G) : Prop where
  labs : Labs N0 wr vo m Z
  rng : ∀ j, j < m * 4 → 0 ≤ Z j ∧ Z j ≤ 99
  flt : Flt wr vx R bt cap Bf Cf g
  ok : ∀ r, r < R → g.len r = C ∧ ∀ c, c < C → 0 ≤ g.z r c ∧ g.z r c ≤ 99
  far : ∀ b, vo.ownBlock = some b → b ≠ bt ∧ ∀ r, r < R → b ≠ Bf r
  lo : N0 ≤ bt ∧ ∀ r, r < R → N0 ≤ Bf r
  bN : B < N0 ∧ N0 ≤ wr.heap.size
  rd : Rdr wr B q
  chg : Chg B (B + 1) w wr
  nw : w.heap.size = N0

theorem fnL_congr {Z Z' : Nat → Int} : ∀ k, (∀ j, j < k → Z j = Z' j) → fnL Z k = fnL Z' k
  | 0, _ => rfl
  | k + 1, e => by simp only [fnL]; rw [fnL_congr k (fun j hj => e j (by omega)), e k (by omega)]
theorem frozL {w : World} {b : Nat} {x y z u : Value} {t : TypeId} (h : w.heap[b]? = some (.cells #[x, y, z, u] t (0, 0))) :
    w.frozen? ⟨b, 0, none⟩ = false ∧ w.frozen? ⟨b, 1, none⟩ = false ∧ w.frozen? ⟨b, 2, none⟩ = false ∧ w.frozen? ⟨b, 3, none⟩ = false :=
  ⟨by simp [World.frozen?, h], by simp [World.frozen?, h], by simp [World.frozen?, h], by simp [World.frozen?, h]⟩
theorem Labs.shapeB {B : Nat} {w : World} {v : Value} {n : Nat} {Z : Nat → Int} (h : Labs B w v n Z) : ∃ a c, v = .slice a n c := by
  rcases h.2 with ⟨rfl, h0⟩ | ⟨g, cap, cur, rfl, _⟩
  · exact ⟨Option.none, 0, by rw [h0]⟩
  · exact ⟨_, _, rfl⟩
theorem Sm.pick {B N0 R C bt cap : Nat} {Bf Cf : Nat → Nat} {vx : Value} {w wr w2 : World} {vo : Value} {m q : Nat} {Z : Nat → Int} {g : G} (h : Sm B N0 R C bt cap Bf Cf vx w wr vo m q Z g)
    (hr : Rdr w2 B (q + 1)) (hc : Chg B (B + 1) wr w2) : Sm B N0 R C bt cap Bf Cf vx w w2 vo m (q + 1) Z g := by
  have hb := h.bN
  exact ⟨ownsRow_same h.labs (fun k h1 h2 => hc.block k h2 (by omega)), h.rng, h.flt.keep hc.size (hc.block _ h.flt.lt (by have := h.lo.1; omega)) (fun r hr => hc.block _ (h.flt.row r hr).2.1 (by have := h.lo.2 r hr; omega)), h.ok, h.far, h.lo, ⟨hb.1, Nat.le_trans hb.2 hc.size⟩, hr, h.chg.trans hc, h.nw⟩
theorem Sm.below {B N0 R C bt cap : Nat} {Bf Cf : Nat → Nat} {vx : Value} {w wr w2 : World} {vo : Value} {m q : Nat} {Z : Nat → Int} {g : G} (h : Sm B N0 R C bt cap Bf Cf vx w wr vo m q Z g)
    (hb2 : Below wr.heap.size wr w2) : Sm B N0 R C bt cap Bf Cf vx w w2 vo m q Z g := by
  have hb := h.bN
  exact ⟨ownsRow_same h.labs (fun k h1 h2 => hb2.block k h2), h.rng, h.flt.keep hb2.size (hb2.block _ h.flt.lt) (fun r hr => hb2.block _ (h.flt.row r hr).2.1), h.ok, h.far, h.lo, ⟨hb.1, Nat.le_trans hb.2 hb2.size⟩, h.rd.keep hb2 (by omega), Chg.then_below h.chg hb2 (by rw [h.nw]; exact hb.2), h.nw⟩
theorem Sm.push {B N0 R C bt cap : Nat} {Bf Cf : Nat → Nat} {vx : Value} {w wr w4 : World} {vo v' : Value} {m q : Nat} {Z : Nat → Int} {g : G} {o : Obj} {x y z u : Int} (h : Sm B N0 R C bt cap Bf Cf vx w wr vo m q Z g)
    (hown : w4.ownsRow N0 63 4 v' (m + 1) (nsV (fnL Z (m * 4)) ++ [.int .i64 x, .int .i64 y, .int .i64 z, .int .i64 u])) (hg : (wr.alloc o).grownBy w4 vo.ownBlock) (hat : v'.ownBlock = vo.ownBlock ∨ v'.ownBlock = some (wr.alloc o).heap.size)
    (hx : 0 ≤ x ∧ x ≤ 99) (hy : 0 ≤ y ∧ y ≤ 99) (hz : 0 ≤ z ∧ z ≤ 99) (hu : 0 ≤ u ∧ u ≤ 99) :
    Sm B N0 R C bt cap Bf Cf vx w w4 v' (m + 1) q (fun j => if j = m * 4 + 3 then u else if j = m * 4 + 2 then z else if j = m * 4 + 1 then y else if j = m * 4 then x else Z j) g := by
  have hb := h.bN
  have hs := hg.size
  rw [World.size_alloc] at hs
  have hblk : ∀ k, k < wr.heap.size → (∀ b, vo.ownBlock = some b → b ≠ k) → w4.heap[k]? = wr.heap[k]? := fun k hk hne => (hg.block k (by rw [World.size_alloc]; omega) (fun e => hne k e.symm rfl)).trans (Below.heap_alloc wr o k hk)
  have hlow : ∀ k, vo.ownBlock = some k → N0 ≤ k := fun k hk => (h.labs.lt k hk).1
  refine ⟨labs_push (Z := fun j => if j = m * 4 + 3 then u else if j = m * 4 + 2 then z else if j = m * 4 + 1 then y else if j = m * 4 then x else Z j) (a := x) (b := y) (c := z) (d := u) ?_ (by simp) (by simp) (by simp) (by simp), fun j hj => ?_, h.flt.keep (by omega) (hblk _ h.flt.lt (fun b hb => (h.far b hb).1)) (fun r hr => hblk _ (h.flt.row r hr).2.1 (fun b hb => (h.far b hb).2 r hr)), h.ok, fun b hb' => ?_, h.lo, ⟨hb.1, by omega⟩, ?_, ?_, h.nw⟩
  · have e : fnL (fun j => if j = m * 4 + 3 then u else if j = m * 4 + 2 then z else if j = m * 4 + 1 then y else if j = m * 4 then x else Z j) (m * 4) = fnL Z (m * 4) := fnL_congr (m * 4) (fun j hj => by rw [if_neg (by omega), if_neg (by omega), if_neg (by omega), if_neg (by omega)])
    rw [e]; exact hown
  · try dsimp only
    split
    · exact hu
    split
    · exact hz
    split
    · exact hy
    split
    · exact hx
    exact h.rng j (by omega)
  · rcases hat with e | e
    · exact h.far b (e ▸ hb')
    · rw [e, World.size_alloc] at hb'
      simp only [Option.some.injEq] at hb'
      have h1 := h.flt.lt
      exact ⟨by omega, fun r hr => by have := (h.flt.row r hr).2.1; omega⟩
  · exact h.rd.keep (C := N0) (((Below.refl N0 wr).alloc hb.2 o).grown hg (by rw [World.size_alloc]; omega) hlow) (by omega)
  · exact Chg.then_below h.chg (((Below.refl N0 wr).alloc hb.2 o).grown hg (by rw [World.size_alloc]; omega) hlow) (by rw [h.nw]; exact Nat.le_refl _)
theorem Sm.set {B N0 R C bt cap : Nat} {Bf Cf : Nat → Nat} {vx : Value} {w wr : World} {vo : Value} {m q : Nat} {Z : Nat → Int} {g : G} (h : Sm B N0 R C bt cap Bf Cf vx w wr vo m q Z g) {x y : Nat} (hx : x < R) (hy : y < C) {u : Int} (hu : 0 ≤ u ∧ u ≤ 99) :
    Sm B N0 R C bt cap Bf Cf vx w (wr.setCell ⟨Bf x, y, none⟩ (.int .i64 u)) vo m q Z ⟨g.n, g.len, fun r c => if r = x ∧ c = y then u else g.z r c⟩ := by
  have hb := h.bN
  have hk : ∀ k, k ≠ Bf x → (wr.setCell ⟨Bf x, y, none⟩ (.int .i64 u)).heap[k]? = wr.heap[k]? := fun k hk => Below.heap_setCell _ _ _ _ hk
  have hBx := h.lo.2 x hx
  have hl : Labs N0 (wr.setCell ⟨Bf x, y, none⟩ (.int .i64 u)) vo m Z := by
    obtain ⟨h1, h2⟩ := h.labs
    refine ⟨h1, ?_⟩
    rcases h2 with h2 | ⟨b, cp, cur, hv, hg, hh, r⟩
    · exact Or.inl h2
    · exact Or.inr ⟨b, cp, cur, hv, hg, by rw [hk b ((h.far b (by rw [hv]; rfl)).2 x hx)]; exact hh, r⟩
  refine ⟨hl, h.rng, h.flt.set x y hx (by rw [(h.ok x hx).1]; exact hy) u, fun r hr => ⟨(h.ok r hr).1, fun c hc => ?_⟩, h.far, h.lo, ⟨hb.1, by simpa [World.setCell] using hb.2⟩, h.rd.same (fun k hk' => hk k (by omega)), Chg.then_below h.chg ((Below.refl N0 wr).setCell (p := ⟨Bf x, y, none⟩) hBx _) (by rw [h.nw]; exact Nat.le_refl _), h.nw⟩
  simp only
  split
  · exact hu
  · exact (h.ok r hr).2 c hc

/-- nil, or an address -/
def ShB (v : Value) : Prop := v = .slice none 0 0 ∨ ∃ b o l c, v = .slice (some ⟨b, o, none⟩) l c
theorem Labs.shB {B : Nat} {w : World} {v : Value} {n : Nat} {Z : Nat → Int} (h : Labs B w v n Z) : ShB v := by
  rcases h.2 with ⟨rfl, h0⟩ | ⟨g, cap, cur, rfl, _⟩
  · exact Or.inl rfl
  · exact Or.inr ⟨_, _, _, _, rfl⟩
/-- what a drawn list of corrections leaves -/
def SdPost (B q n : Nat) (w : World) (e : Ending) (w' : World) : Prop :=
  ∃ v m Z, e = .returned v ∧ ShB v ∧ RdT w.heap.size w'.heap.size w' v m Z ∧ m ≤ n ∧ (∃ q', q' ≤ q + 3 * n + 1 ∧ Rdr w' B q') ∧ Chg B (B + 1) w w'

set_option maxHeartbeats 16000000 in
set_option maxRecDepth 100000 in
theorem some_any (v : Value) (B q n : Nat) (g : G) (w : World) (hg : RdM (B + 1) w.heap.size w v g) (h : Rdr w B q) (hB : B < w.heap.size) (hq : q ≤ 1000) (hn : n ≤ 60) :
    Calls Try.prog 104 #[.pointer (some ⟨B, 0, none⟩), v, .int .i64 n] w (SdPost B q n w) := by
  obtain ⟨i0, hi0, hz0, hz1, hz2⟩ := info_parts Try.infoLb
  have HL0 := Lib.hid (show Labs w.heap.size (w.alloc (.cells #[] 63)) (.slice (some ⟨w.heap.size, 0, none⟩) 0 0) 0 (fun _ => 0) from labs_lit w _)
  have HB0 := Lib.hid (show Below w.heap.size w (w.alloc (.cells #[] 63)) from (Below.refl _ _).alloc (Nat.le_refl _) _)
  have hs0 : (w.alloc (.cells #[] 63)).heap.size = w.heap.size + 1 := by simp
  have HG := Lib.hid hg
  have HV := Lib.hid (specValid_any v (B + 1) w.heap.size g (w.alloc (.cells #[] 63)) (hg.same (SameIn.below HB0.out (Nat.le_refl _))))
  have HR0 := Lib.hid (h.keep HB0.out hB)
  clear h hg
  generalize hW0 : w.alloc (.cells #[] 63) = W0 at HL0 HB0 hs0 HV HR0
  by_cases hval : g.Valid
  case neg =>
    rw [G.vB_no hval] at HV
    clear hval HG
    go_enter Try.func104, Try.ntmps104
    go_wp2_with fail
    try rw [hW0]
    refine HV.out.mono ?_
    rintro e w1 ⟨rfl, n1, rfl⟩
    go_wp2
    go_ret
    exact ⟨_, 0, fun _ => 0, rfl, HL0.out.shB, (HL0.out.owT (fun j hj => by omega)).rd.mono (Nat.le_refl _) (by show W0.heap.size ≤ W0.heap.size; exact Nat.le_refl _), Nat.zero_le _, ⟨q, by omega, HR0.out.same (fun _ _ => rfl)⟩, (HB0.out.chg B (B + 1)).drewN n1⟩
  rw [G.vB_yes hval] at HV
  have HVAL := Lib.hid hval
  have hR := hval.1
  have hC := hval.2.1
  have HCP := Lib.hid (fun (k : Nat) => l1Copy_any v (B + 1) w.heap.size g (W0.drewN k) ((HG.out.same (SameIn.below HB0.out (Nat.le_refl _))).same (fun _ _ _ => rfl)) (by show w.heap.size ≤ W0.heap.size; omega) (by omega) (fun i hi' => by have := (hval.2.2 i hi').1; omega))
  obtain ⟨bg, og, cg, rfl⟩ := HG.out.shape (by omega)
  clear hval
  go_enter Try.func104, Try.ntmps104
  go_wp2_with fail
  try rw [hW0]
  refine HV.out.mono ?_
  rintro e w1 ⟨rfl, n1, rfl⟩
  go_wp2_with fail
  refine (HCP.out n1).mono ?_
  rintro e w2 ⟨vx, Bk, RV, rfl, hgr⟩
  obtain ⟨bt, cap, Bf, Cf, hfl, hbt, hrows⟩ := hgr.flt (by omega) (fun r hr => by have := (HVAL.out.2.2 r hr).1; omega)
  have hbW : Below W0.heap.size W0 w2 := (show Below W0.heap.size W0 (W0.drewN n1) from below_drewN (Below.refl _ _) n1).trans hgr.below
  have hb2 : Below w.heap.size w w2 := HB0.out.trans (hbW.mono (by omega))
  have hbt1 : W0.heap.size ≤ bt := hbt
  have hrw1 : ∀ r, r < g.n → W0.heap.size ≤ Bf r := fun r hr => (hrows r hr).2
  have HS := Lib.hid (show Sm B w.heap.size g.n (g.len 0) bt cap Bf Cf vx w w2 (.slice (some ⟨w.heap.size, 0, none⟩) 0 0) 0 q (fun _ => 0) g from
    ⟨ownsRow_same HL0.out (fun k h1 h2 => hbW.block k h2), fun j hj => by omega, hfl, fun r hr => ⟨(HVAL.out.2.2 r hr).1, fun c hc => (HVAL.out.2.2 r hr).2 c (by have := (HVAL.out.2.2 r hr).1; omega)⟩,
     fun b hb => by
       have e : b = w.heap.size := by simp only [Value.ownBlock, Option.some.injEq] at hb; exact hb.symm
       exact ⟨by omega, fun r hr => by have := hrw1 r hr; omega⟩, ⟨by omega, fun r hr => by have := hrw1 r hr; omega⟩, ⟨hB, hb2.size⟩, HR0.out.keep hbW (by omega), hb2.chg B (B + 1), rfl⟩)
  obtain ⟨eVX, hle0, _, _, _, _⟩ := hfl
  subst eVX
  clear hgr hb2 hbW hrows HCP HV HL0 hW0 HR0
  go_wp2
  go_loopw [7, 9] (fun o i wr => ∃ (k m q' : Nat) (vo : Value) (Z : Nat → Int) (g' : G), k ≤ n ∧ i = .int .i64 k ∧ vo = o ∧ m ≤ k ∧ q' ≤ q + 3 * k ∧ Sm B w.heap.size g.n (g.len 0) bt cap Bf Cf (.slice (some ⟨bt, 0, none⟩) g.n cap) w wr vo m q' Z g') (fun _ i => fun _ => n - (intOf i).toNat)
  case atStart => exact ⟨0, 0, q, _, _, _, Nat.zero_le _, rfl, rfl, Nat.le_refl _, by omega, HS.out⟩
  case round =>
    clear HS
    obtain ⟨k, m, q', vo, Z, g', hk, rfl, rfl, hm, hq', hsm⟩ := hrel
    have HSM := Lib.hid hsm
    by_cases hlt : k < n
    · have hlt' : (k : Int) < n := by omega
      clear hsm
      go_wp2_with fail
      refine (pick_any B q' g.n _ HSM.out.rd (by omega) (by omega) (by omega)).mono ?_
      rintro e w3 ⟨x, hx, rfl, hr3, hc3, hs3⟩
      have HS3 := Lib.hid (HSM.out.pick hr3 hc3)
      have hG3 := (HG.out.same (HS3.out.chg.sameIn (Nat.le_refl _) (Or.inr (Nat.le_refl _))))
      obtain ⟨a0, c0, hd0⟩ := hG3.head (by omega) (g.len 0) rfl
      have hg0 : (0 : Int) < g.n := by omega
      clear hr3 hc3 hs3 hG3 HSM
      go_wp2_with fail
      refine (pick_any B (q' + 1) (g.len 0) _ HS3.out.rd (by omega) (by omega) (by omega)).mono ?_
      rintro e w4 ⟨y, hy, rfl, hr4, hc4, hs4⟩
      have HS4 := Lib.hid (HS3.out.pick hr4 hc4)
      clear hr4 hc4 hs4 hd0 HS3
      go_wp2_with fail
      refine (pick_any B (q' + 1 + 1) 12 _ HS4.out.rd (by omega) (by omega) (by omega)).mono ?_
      rintro e w5 ⟨z, hz, rfl, hr5, hc5, hs5⟩
      have HS5 := Lib.hid (HS4.out.pick hr5 hc5)
      clear hr5 hc5 hs5 HS4
      obtain ⟨wf, ewf⟩ : ∃ wf, w5.heap.size = wf := ⟨_, rfl⟩
      have hsm5 := HS5.out
      have hbtlt := hsm5.flt.lt
      have hrow := hsm5.flt.row x hx
      have htop := hsm5.flt.top x hx
      have hlen := (hsm5.ok x hx).1
      have hval := (hsm5.ok x hx).2 y hy
      have hcell := hrow.2.2.2.2 y (by omega)
      obtain ⟨h, eh⟩ : ∃ h, g'.z x y = h := ⟨_, rfl⟩
      rw [eh] at hval hcell
      rw [hlen] at htop
      obtain ⟨W5, hW5⟩ : ∃ W5, w5.alloc (.cells #[.int .i64 x, .int .i64 y, .int .i64 0, .int .i64 z] 63) = W5 := ⟨_, rfl⟩
      have hb5 : Below w5.heap.size w5 W5 := by rw [← hW5]; exact (Below.refl _ _).alloc (Nat.le_refl _) _
      have hx5 : W5.heap[wf]? = some (.cells #[.int .i64 x, .int .i64 y, .int .i64 0, .int .i64 z] 63 (0, 0)) := by rw [← hW5, ← ewf]; exact heap_alloc_new w5 _
      have hs5 : W5.heap.size = wf + 1 := by rw [← hW5, ← ewf]; simp
      have HSA := Lib.hid (hsm5.below hb5)
      have hxR : (x : Int) < g.n := by omega
      have hyC : (y : Int) < g.len 0 := by omega
      have hcapx := hle0.1
      have hne1 : bt ≠ wf := by omega
      have hne2 : Bf x ≠ wf := by have := hrow.2.1; omega
      have hne3 : Bf x ≠ bt := hrow.1
      have hbx := hrow.2.1
      -- the box with the old height
      obtain ⟨W6, hW6⟩ : ∃ W6, W5.drew.setCell ⟨wf, 2, none⟩ (.int .i64 h) = W6 := ⟨_, rfl⟩
      have hx6 : W6.heap[wf]? = some (.cells #[.int .i64 x, .int .i64 y, .int .i64 h, .int .i64 z] 63 (0, 0)) := by
        rw [← hW6]
        have h1 := heap_setCell_same W5.drew wf 2 _ _ (.int .i64 h) (show W5.drew.heap[wf]? = _ from hx5)
        rw [h1]; simp
      have hb6 : Below w5.heap.size w5 W6 := by rw [← hW6, ewf]; exact (show Below wf w5 W5.drew from by rw [← ewf]; exact hb5.drew).setCell (p := ⟨wf, 2, none⟩) (Nat.le_refl _) _
      have HSB := Lib.hid (hsm5.below hb6)
      have hs6 : W6.heap.size = wf + 1 := by rw [← hW6]; simpa [World.setCell] using hs5
      have HHELD := Lib.hid (show (fun w' => w'.cell? ⟨wf, 0, none⟩ = some (.int .i64 x) ∧ w'.cell? ⟨wf, 1, none⟩ = some (.int .i64 y) ∧ w'.cell? ⟨bt, x, none⟩ = some (.slice (some ⟨Bf x, 0, none⟩) (g.len 0) (Cf x)) ∧ w'.cell? ⟨Bf x, y, none⟩ = some (.int .i64 h) ∧ w'.frozen? ⟨wf, 2, none⟩ = false) W5.drew from by
        obtain ⟨q0, q1, q2, q3⟩ := cellsLb hx5
        obtain ⟨f0, f1, f2, f3⟩ := frozL hx5
        exact ⟨q0, q1, (hb5.cell (p := ⟨bt, x, none⟩) (by show bt < _; omega)).trans htop.1, (hb5.cell (p := ⟨Bf x, y, none⟩) (by show Bf x < _; omega)).trans hcell.1, f2⟩)
      have q62 := (cellsLb hx5).2.2.1
      have HST := Lib.hid (show (fun w' => w'.cell? ⟨wf, 0, none⟩ = some (.int .i64 x) ∧ w'.cell? ⟨wf, 1, none⟩ = some (.int .i64 y) ∧ w'.cell? ⟨bt, x, none⟩ = some (.slice (some ⟨Bf x, 0, none⟩) (g.len 0) (Cf x)) ∧ w'.cell? ⟨Bf x, y, none⟩ = some (.int .i64 h) ∧ w'.frozen? ⟨wf, 2, none⟩ = false) W6 from by
        rw [← hW6]
        obtain ⟨q0, q1, q2, q3, q4⟩ := HHELD.out
        exact ⟨(World.cell?_setCell_other _ _ _ _ (by intro e; simp only [Addr.mk.injEq] at e; omega)).trans q0, (World.cell?_setCell_other _ _ _ _ (by intro e; simp only [Addr.mk.injEq] at e; omega)).trans q1, (World.cell?_setCell_far _ _ _ _ (fun e => hne1 e.symm)).trans q2, (World.cell?_setCell_far _ _ _ _ (fun e => hne2 e.symm)).trans q3, by rw [World.frozen?_setCell]; exact q4⟩)
      have HSL := HS5
      clear hsm5 eh hcell hrow htop hx5 hb5 hb6 HS5
      go_wp2_with fail
      try rw [hW5]
      refine wp_region_held_drew (S := (fun w' => w'.cell? ⟨wf, 0, none⟩ = some (.int .i64 x) ∧ w'.cell? ⟨wf, 1, none⟩ = some (.int .i64 y) ∧ w'.cell? ⟨bt, x, none⟩ = some (.slice (some ⟨Bf x, 0, none⟩) (g.len 0) (Cf x)) ∧ w'.cell? ⟨Bf x, y, none⟩ = some (.int .i64 h) ∧ w'.frozen? ⟨wf, 2, none⟩ = false)) (by kernel_rfl) ?_ (fun hHeld => ?_)
      · exact HHELD.out
      refine wpAnyH_take (i := 0) (v := ?_) (by simp only [List.getElem?_toArray, List.getElem?_cons_succ, List.getElem?_cons_zero]; exact rfl) (by kernel_rfl) (by kernel_rfl) (by kernel_rfl) (by exact fun _ _ _ h => h) (Or.inl ⟨by rfl, ?_⟩) (by assumption) ?_
      rotate_left
      · intro w hSw; (try dsimp only at hSw); go_simp; try with_reducible rfl
      try simp only [Act.put, List.setIfInBounds_toArray, List.set_cons_zero, List.set_cons_succ]
      refine wpAnyH_take (i := 1) (v := ?_) (by simp only [List.getElem?_toArray, List.getElem?_cons_succ, List.getElem?_cons_zero]; exact rfl) (by kernel_rfl) (by kernel_rfl) (by kernel_rfl) (by exact fun _ _ _ h => h) (Or.inl ⟨by rfl, ?_⟩) (by assumption) ?_
      rotate_left
      · intro w hSw; (try dsimp only at hSw); go_simp; try with_reducible rfl
      try simp only [Act.put, List.setIfInBounds_toArray, List.set_cons_zero, List.set_cons_succ]
      refine wpAnyH_take (i := 2) (v := ?_) (by simp only [List.getElem?_toArray, List.getElem?_cons_succ, List.getElem?_cons_zero]; exact rfl) (by kernel_rfl) (by kernel_rfl) (by kernel_rfl) (by exact fun _ _ _ h => h) (Or.inl ⟨by rfl, ?_⟩) (by assumption) ?_
      rotate_left
      · intro w hSw; (try dsimp only at hSw); go_simp; try with_reducible rfl
      try simp only [Act.put, List.setIfInBounds_toArray, List.set_cons_zero, List.set_cons_succ]
      refine wpAnyH_take (i := 3) (v := ?_) (by simp only [List.getElem?_toArray, List.getElem?_cons_succ, List.getElem?_cons_zero]; exact rfl) (by kernel_rfl) (by kernel_rfl) (by kernel_rfl) (by exact fun _ _ _ h => h) (Or.inl ⟨by rfl, ?_⟩) (by assumption) ?_
      rotate_left
      · intro w hSw; (try dsimp only at hSw); go_simp; try with_reducible rfl
      try simp only [Act.put, List.setIfInBounds_toArray, List.set_cons_zero, List.set_cons_succ]
      refine wpAnyH_take (i := 4) (v := ?_) (by simp only [List.getElem?_toArray, List.getElem?_cons_succ, List.getElem?_cons_zero]; exact rfl) (by kernel_rfl) (by kernel_rfl) (by kernel_rfl) (by exact fun _ _ _ h => h) (Or.inl ⟨by rfl, ?_⟩) (by assumption) ?_
      rotate_left
      · intro w hSw; (try dsimp only at hSw); go_simp; try with_reducible rfl
      try simp only [Act.put, List.setIfInBounds_toArray, List.set_cons_zero, List.set_cons_succ]
      refine wpAnyH_take (i := 5) (v := ?_) (by simp only [List.getElem?_toArray, List.getElem?_cons_succ, List.getElem?_cons_zero]; exact rfl) (by kernel_rfl) (by kernel_rfl) (by kernel_rfl) (by exact fun _ _ _ h => h) (Or.inl ⟨by rfl, ?_⟩) (by assumption) ?_
      rotate_left
      · intro w hSw; (try dsimp only at hSw); go_simp; try with_reducible rfl
      try simp only [Act.put, List.setIfInBounds_toArray, List.set_cons_zero, List.set_cons_succ]
      refine wpAnyH_take (i := 6) (v := ?_) (by simp only [List.getElem?_toArray, List.getElem?_cons_succ, List.getElem?_cons_zero]; exact rfl) (by kernel_rfl) (by kernel_rfl) (by kernel_rfl) (by exact fun _ _ _ h => h) (Or.inl ⟨by rfl, ?_⟩) (by assumption) ?_
      rotate_left
      · intro w hSw; (try dsimp only at hSw); go_simp; try with_reducible rfl
      try simp only [Act.put, List.setIfInBounds_toArray, List.set_cons_zero, List.set_cons_succ]
      refine wpAnyH_take (i := 7) (v := ?_) (by simp only [List.getElem?_toArray, List.getElem?_cons_succ, List.getElem?_cons_zero]; exact rfl) (by kernel_rfl) (by kernel_rfl) (by kernel_rfl) (by exact fun _ _ _ h => h) (Or.inl ⟨by rfl, ?_⟩) (by assumption) ?_
      rotate_left
      · intro w hSw; (try dsimp only at hSw); go_simp; try with_reducible rfl
      try simp only [Act.put, List.setIfInBounds_toArray, List.set_cons_zero, List.set_cons_succ]
      refine wpAnyH_take (i := 8) (v := ?_) (by simp only [List.getElem?_toArray, List.getElem?_cons_succ, List.getElem?_cons_zero]; exact rfl) (by kernel_rfl) (by kernel_rfl) (by kernel_rfl) (by exact fun _ _ _ h => h) (Or.inl ⟨by rfl, ?_⟩) (by assumption) ?_
      rotate_left
      · intro w hSw; (try dsimp only at hSw); go_simp; try with_reducible rfl
      try simp only [Act.put, List.setIfInBounds_toArray, List.set_cons_zero, List.set_cons_succ]
      refine wpAnyH_take (i := 9) (v := ?_) (by simp only [List.getElem?_toArray, List.getElem?_cons_succ, List.getElem?_cons_zero]; exact rfl) (by kernel_rfl) (by kernel_rfl) (by kernel_rfl) (by exact fun _ _ _ h => h) (Or.inl ⟨by rfl, ?_⟩) (by assumption) ?_
      rotate_left
      · intro w hSw; (try dsimp only at hSw); go_simp; try with_reducible rfl
      try simp only [Act.put, List.setIfInBounds_toArray, List.set_cons_zero, List.set_cons_succ]
      refine wpAnyH_ready (rs := [10]) (by kernel_rfl) (by simp) ?_
      refine AllReadyH.cons (by simp only [List.getElem?_toArray, List.getElem?_cons_succ, List.getElem?_cons_zero]; exact rfl) (fun K hK => ?_) AllReadyH.nil
      go_simp
      refine hK.out _ _ ?_ (fun hHeld2 => ?_)
      · exact HST.out
      clear hK K
      try simp only [Act.put, List.setIfInBounds_toArray, List.set_cons_zero, List.set_cons_succ]
      refine wpAnyH_done (by kernel_rfl) ?_ _
      clear HHELD HST q62 hHeld hHeld2
      obtain ⟨g0, g1, g2, g3⟩ := cellsLb hx6
      have HX6 := Lib.hid hx6
      have HS6 := Lib.hid hs6
      clear hs6 hs5
      have hq6 : q' + 1 + 1 + 1 ≤ q + 3 * (k + 1) := by omega
      clear hx6 hW5 hW6
      by_cases hhz : h = (z : Int)
      · have hhz' : (h != (z : Int)) = false := by simpa using hhz
        clear hhz
        go_wp2
        go_roundw
        case rel => exact ⟨k + 1, m, _, vo, Z, g', by omega, by go_num, rfl, by omega, hq6, HSB.out⟩
        case measure => simp [intOf]; omega
      · have hhz' : (h != (z : Int)) = true := by simpa using hhz
        have HLB := Lib.hid (show W6.ownsRow w.heap.size 63 4 vo m (nsV (fnL Z (m * 4))) from HSB.out.labs)
        have hwb := HSB.out.bN.2
        have hz11 : 0 ≤ (z : Int) ∧ (z : Int) ≤ 99 := by omega
        clear hhz
        go_wp2_with (first | (at_builtin; refine wpList_append_own_at _ rfl _ _ 30 rfl w.heap.size 63 i0 _ 4 32 Try.underlying30 hi0 hz0 hz1 hz2 rfl (by decide) _ m (nsV (fnL Z (m * 4))) rfl (HLB.out.alloc _) ⟨W6.heap.size, 0, none⟩ 1 1 [.int .i64 x, .int .i64 y, .int .i64 h, .int .i64 z] rfl rfl (World.news_of_block (cs := #[.int .i64 x, .int .i64 y, .int .i64 h, .int .i64 z]) (t := 63) (fr := (0, 0)) (heap_alloc_new W6 _)) (by simp [Value.oneCell']) (by unfold maxLen; omega) (by omega) (by simp; omega) ?_; intro v' w7 hown7 hg7 _ hat7; have HO7 := Lib.hid hown7; have HG7 := Lib.hid hg7; have HAT7 := Lib.hid hat7; clear hown7 hg7 hat7))
        have HS7 := Lib.hid (HSB.out.push (o := .cells #[.int .i64 x, .int .i64 y, .int .i64 h, .int .i64 z] 63) HO7.out HG7.out HAT7.out (by omega) (by omega) hval hz11)
        have hblk7 := (HG7.out.block wf (by have := HS6.out; rw [World.size_alloc]; omega) (fun e => by have := (HSL.out.labs.lt wf e.symm).2; omega)).trans ((Below.heap_alloc W6 (.cells #[.int .i64 x, .int .i64 y, .int .i64 h, .int .i64 z] 63) wf (by have := HS6.out; omega)).trans HX6.out)
        have HX7 := Lib.hid hblk7
        clear hblk7 HO7 HG7 HAT7
        have hsm7 := HS7.out
        have hrow := hsm7.flt.row x hx
        have htop := hsm7.flt.top x hx
        have hlen := (hsm7.ok x hx).1
        have hcell := hrow.2.2.2.2 y (by omega)
        rw [hlen] at htop
        obtain ⟨W8, hW8⟩ : ∃ W8, w7.drew.setCell ⟨Bf x, y, none⟩ (.int .i64 z) = W8 := ⟨_, rfl⟩
        have HS8 := Lib.hid (show Sm B w.heap.size g.n (g.len 0) bt cap Bf Cf _ w W8 v' (m + 1) _ _ _ from by
          rw [← hW8]; exact (hsm7.below (w2 := w7.drew) (Below.refl _ _).drew).set hx hy hz11)
        have HHELD := Lib.hid (show (fun w' => w'.cell? ⟨wf, 0, none⟩ = some (.int .i64 x) ∧ w'.cell? ⟨wf, 1, none⟩ = some (.int .i64 y) ∧ w'.cell? ⟨wf, 3, none⟩ = some (.int .i64 z) ∧ w'.cell? ⟨bt, x, none⟩ = some (.slice (some ⟨Bf x, 0, none⟩) (g.len 0) (Cf x)) ∧ w'.frozen? ⟨Bf x, y, none⟩ = false) w7.drew from by
          obtain ⟨q0, q1, q2, q3⟩ := cellsLb HX7.out
          exact ⟨q0, q1, q3, htop.1, hcell.2⟩)
        have q62 : w7.cell? ⟨Bf x, y, none⟩ = some (.int .i64 (g'.z x y)) := hcell.1
        have HST := Lib.hid (show (fun w' => w'.cell? ⟨wf, 0, none⟩ = some (.int .i64 x) ∧ w'.cell? ⟨wf, 1, none⟩ = some (.int .i64 y) ∧ w'.cell? ⟨wf, 3, none⟩ = some (.int .i64 z) ∧ w'.cell? ⟨bt, x, none⟩ = some (.slice (some ⟨Bf x, 0, none⟩) (g.len 0) (Cf x)) ∧ w'.frozen? ⟨Bf x, y, none⟩ = false) W8 from by
          rw [← hW8]
          obtain ⟨q0, q1, q2, q3, q4⟩ := HHELD.out
          exact ⟨(World.cell?_setCell_far _ _ _ _ hne2).trans q0, (World.cell?_setCell_far _ _ _ _ hne2).trans q1, (World.cell?_setCell_far _ _ _ _ hne2).trans q2, (World.cell?_setCell_far _ _ _ _ hne3).trans q3, by rw [World.frozen?_setCell]; exact q4⟩)
        clear hsm7 hcell hrow htop g0 g1 g2 g3
        try rw [hW8]
        refine wp_region_held_drew (S := (fun w' => w'.cell? ⟨wf, 0, none⟩ = some (.int .i64 x) ∧ w'.cell? ⟨wf, 1, none⟩ = some (.int .i64 y) ∧ w'.cell? ⟨wf, 3, none⟩ = some (.int .i64 z) ∧ w'.cell? ⟨bt, x, none⟩ = some (.slice (some ⟨Bf x, 0, none⟩) (g.len 0) (Cf x)) ∧ w'.frozen? ⟨Bf x, y, none⟩ = false)) (by kernel_rfl) ?_ (fun hHeld => ?_)
        · exact HHELD.out
        refine wpAnyH_take (i := 0) (v := ?_) (by simp only [List.getElem?_toArray, List.getElem?_cons_succ, List.getElem?_cons_zero]; exact rfl) (by kernel_rfl) (by kernel_rfl) (by kernel_rfl) (by exact fun _ _ _ h => h) (Or.inl ⟨by rfl, ?_⟩) (by assumption) ?_
        rotate_left
        · intro w hSw; (try dsimp only at hSw); go_simp; try with_reducible rfl
        try simp only [Act.put, List.setIfInBounds_toArray, List.set_cons_zero, List.set_cons_succ]
        refine wpAnyH_take (i := 1) (v := ?_) (by simp only [List.getElem?_toArray, List.getElem?_cons_succ, List.getElem?_cons_zero]; exact rfl) (by kernel_rfl) (by kernel_rfl) (by kernel_rfl) (by exact fun _ _ _ h => h) (Or.inl ⟨by rfl, ?_⟩) (by assumption) ?_
        rotate_left
        · intro w hSw; (try dsimp only at hSw); go_simp; try with_reducible rfl
        try simp only [Act.put, List.setIfInBounds_toArray, List.set_cons_zero, List.set_cons_succ]
        refine wpAnyH_take (i := 2) (v := ?_) (by simp only [List.getElem?_toArray, List.getElem?_cons_succ, List.getElem?_cons_zero]; exact rfl) (by kernel_rfl) (by kernel_rfl) (by kernel_rfl) (by exact fun _ _ _ h => h) (Or.inl ⟨by rfl, ?_⟩) (by assumption) ?_
        rotate_left
        · intro w hSw; (try dsimp only at hSw); go_simp; try with_reducible rfl
        try simp only [Act.put, List.setIfInBounds_toArray, List.set_cons_zero, List.set_cons_succ]
        refine wpAnyH_take (i := 3) (v := ?_) (by simp only [List.getElem?_toArray, List.getElem?_cons_succ, List.getElem?_cons_zero]; exact rfl) (by kernel_rfl) (by kernel_rfl) (by kernel_rfl) (by exact fun _ _ _ h => h) (Or.inl ⟨by rfl, ?_⟩) (by assumption) ?_
        rotate_left
        · intro w hSw; (try dsimp only at hSw); go_simp; try with_reducible rfl
        try simp only [Act.put, List.setIfInBounds_toArray, List.set_cons_zero, List.set_cons_succ]
        refine wpAnyH_take (i := 4) (v := ?_) (by simp only [List.getElem?_toArray, List.getElem?_cons_succ, List.getElem?_cons_zero]; exact rfl) (by kernel_rfl) (by kernel_rfl) (by kernel_rfl) (by exact fun _ _ _ h => h) (Or.inl ⟨by rfl, ?_⟩) (by assumption) ?_
        rotate_left
        · intro w hSw; (try dsimp only at hSw); go_simp; try with_reducible rfl
        try simp only [Act.put, List.setIfInBounds_toArray, List.set_cons_zero, List.set_cons_succ]
        refine wpAnyH_take (i := 5) (v := ?_) (by simp only [List.getElem?_toArray, List.getElem?_cons_succ, List.getElem?_cons_zero]; exact rfl) (by kernel_rfl) (by kernel_rfl) (by kernel_rfl) (by exact fun _ _ _ h => h) (Or.inl ⟨by rfl, ?_⟩) (by assumption) ?_
        rotate_left
        · intro w hSw; (try dsimp only at hSw); go_simp; try with_reducible rfl
        try simp only [Act.put, List.setIfInBounds_toArray, List.set_cons_zero, List.set_cons_succ]
        refine wpAnyH_take (i := 6) (v := ?_) (by simp only [List.getElem?_toArray, List.getElem?_cons_succ, List.getElem?_cons_zero]; exact rfl) (by kernel_rfl) (by kernel_rfl) (by kernel_rfl) (by exact fun _ _ _ h => h) (Or.inl ⟨by rfl, ?_⟩) (by assumption) ?_
        rotate_left
        · intro w hSw; (try dsimp only at hSw); go_simp; try with_reducible rfl
        try simp only [Act.put, List.setIfInBounds_toArray, List.set_cons_zero, List.set_cons_succ]
        refine wpAnyH_take (i := 7) (v := ?_) (by simp only [List.getElem?_toArray, List.getElem?_cons_succ, List.getElem?_cons_zero]; exact rfl) (by kernel_rfl) (by kernel_rfl) (by kernel_rfl) (by exact fun _ _ _ h => h) (Or.inl ⟨by rfl, ?_⟩) (by assumption) ?_
        rotate_left
        · intro w hSw; (try dsimp only at hSw); go_simp; try with_reducible rfl
        try simp only [Act.put, List.setIfInBounds_toArray, List.set_cons_zero, List.set_cons_succ]
        refine wpAnyH_take (i := 8) (v := ?_) (by simp only [List.getElem?_toArray, List.getElem?_cons_succ, List.getElem?_cons_zero]; exact rfl) (by kernel_rfl) (by kernel_rfl) (by kernel_rfl) (by exact fun _ _ _ h => h) (Or.inl ⟨by rfl, ?_⟩) (by assumption) ?_
        rotate_left
        · intro w hSw; (try dsimp only at hSw); go_simp; try with_reducible rfl
        try simp only [Act.put, List.setIfInBounds_toArray, List.set_cons_zero, List.set_cons_succ]
        refine wpAnyH_take (i := 9) (v := ?_) (by simp only [List.getElem?_toArray, List.getElem?_cons_succ, List.getElem?_cons_zero]; exact rfl) (by kernel_rfl) (by kernel_rfl) (by kernel_rfl) (by exact fun _ _ _ h => h) (Or.inl ⟨by rfl, ?_⟩) (by assumption) ?_
        rotate_left
        · intro w hSw; (try dsimp only at hSw); go_simp; try with_reducible rfl
        try simp only [Act.put, List.setIfInBounds_toArray, List.set_cons_zero, List.set_cons_succ]
        refine wpAnyH_ready (rs := [10]) (by kernel_rfl) (by simp) ?_
        refine AllReadyH.cons (by simp only [List.getElem?_toArray, List.getElem?_cons_succ, List.getElem?_cons_zero]; exact rfl) (fun K hK => ?_) AllReadyH.nil
        go_simp
        refine hK.out _ _ ?_ (fun hHeld2 => ?_)
        · exact HST.out
        clear hK K
        try simp only [Act.put, List.setIfInBounds_toArray, List.set_cons_zero, List.set_cons_succ]
        refine wpAnyH_done (by kernel_rfl) ?_ _
        clear HHELD HST q62 hHeld hHeld2
        go_wp2
        go_roundw
        case rel => exact ⟨k + 1, m + 1, _, v', _, _, by omega, by go_num, rfl, by omega, hq6, HS8.out⟩
        case measure => simp [intOf]; omega
    · have ek : k = n := by omega
      have HSH := Lib.hid hsm.labs.shB
      obtain ⟨ao, co, rfl⟩ := hsm.labs.shapeB
      have hsz := hsm.bN
      have hown := hsm.labs.owT (fun j hj => by have := hsm.rng j hj; omega)
      have HCH := Lib.hid hsm.chg
      have HRD := Lib.hid hsm.rd
      have HOW := Lib.hid hown
      have HRG := Lib.hid hsm.rng
      have hnlt : ¬ (k : Int) < n := by omega
      clear hsm hown hle0
      by_cases h0 : m = 0
      · subst h0
        have h0' : ¬ (0 : Int) < (0 : Nat) := by omega
        go_wp2
        go_ret
        exact ⟨_, 0, Z, rfl, HSH.out, HOW.out.rd, by omega, ⟨q', by omega, HRD.out⟩, HCH.out⟩
      · have h0' : (0 : Int) < m := by omega
        go_wp2_with fail
        refine (pick_any B q' 16 _ HRD.out (by omega) (by omega) (by omega)).mono ?_
        rintro e w3 ⟨x, hx, rfl, hr3, hc3, hs3⟩
        have hso : OwT w.heap.size w3.heap.size w3 (.slice ao m co) m Z := by
          rcases HOW.out with ⟨h1, h2⟩ | ⟨b, N, cap', F, h1, h2, h3, h4, h5⟩
          · omega
          · exact Or.inr ⟨b, N, cap', F, h1, h2, by omega, h4.of_block (hc3.block b h3 (by omega)), h5⟩
        have HC3 := Lib.hid (HCH.out.trans hc3)
        have HR3 := Lib.hid hr3
        clear hr3 hc3 hs3 HCH HRD HOW
        by_cases hx0 : x = 0
        · subst hx0
          rcases hso with ⟨h1, h2⟩ | ⟨b, N, cap', F, h1, h2, h3, h4, h5, h6, h7, h8, h9⟩
          · omega
          simp only [Value.slice.injEq] at h1
          obtain ⟨rfl, _, rfl⟩ := h1
          have hz2 := HRG.out 2 (by omega)
          have e2 := h4.cell (i := 2) (by omega)
          rw [h8 2 (by omega)] at e2
          have f2 := h4.frozen 2
          obtain ⟨z2, ez2⟩ : ∃ z2, Z 2 = z2 := ⟨_, rfl⟩
          rw [ez2] at e2 hz2
          have HROW := Lib.hid (h4.set 2 (.int .i64 (z2 + 1)))
          have HF := Lib.hid h8
          have HZ := Lib.hid h9
          have EZ := Lib.hid ez2
          clear h4 h8 h9 ez2
          go_wp2
          go_ret
          refine ⟨_, m, fun j => if j = 2 then z2 + 1 else Z j, rfl, HSH.out, (show OwT w.heap.size _ _ _ m _ from Or.inr ⟨b, N, co, _, rfl, h2, ?_, HROW.out, h5, h6, h7, fun i hi => ?_, fun i hi => ?_⟩).rd, by omega, ⟨q' + 1, by omega, HR3.out.same (fun k hk => Below.heap_setCell _ _ _ _ (by show k ≠ b; omega))⟩, Chg.then_below HC3.out ((Below.refl w.heap.size w3).setCell (p := ⟨b, 2, none⟩) h2 _) (Nat.le_refl _)⟩
          · simpa [World.setCell] using h3
          · try dsimp only
            by_cases e : i = 2
            · rw [if_pos e, if_pos e]
            · rw [if_neg e, if_neg e]; exact HF.out i hi
          · try dsimp only
            by_cases e : i = 2
            · rw [if_pos e]; omega
            · rw [if_neg e]; exact HZ.out i hi
        · have hx0' : ((x : Int) == 0) = false := by simp; omega
          go_wp2
          go_ret
          exact ⟨_, m, Z, rfl, HSH.out, hso.rd, by omega, ⟨q' + 1, by omega, HR3.out⟩, HC3.out⟩

end Go.Proofs.Ytidlloelinmnnaa
