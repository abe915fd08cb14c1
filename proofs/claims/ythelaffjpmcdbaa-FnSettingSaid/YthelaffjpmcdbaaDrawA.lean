/- The reader of a code, from which the draws of the promises' laws are made. -/
import Derived.Test.YthelaffjpmcdbaaSame
import Derived.Laws.Bits64
namespace Go.Proofs.Ythelaffjpmcdbaa
open Go.RowKit
set_option linter.unusedVariables false

theorem bits_xor_i64 (a b : Nat) (ha : a < 4611686018427387904) (hb : b < 4611686018427387904) : ∃ y : Nat, bits .xor .i64 (a : Int) (b : Int) = (y : Int) := by
  have hx : a ^^^ b < 2 ^ 62 := Nat.xor_lt_two_pow (by omega) (by omega)
  have h1 : (BitVec.ofInt 64 (a : Int)).toNat = a := by
    rw [BitVec.ofInt_natCast, BitVec.toNat_ofNat]; exact Nat.mod_eq_of_lt (by omega)
  have h2 : (BitVec.ofInt 64 (b : Int)).toNat = b := by
    rw [BitVec.ofInt_natCast, BitVec.toNat_ofNat]; exact Nat.mod_eq_of_lt (by omega)
  refine ⟨a ^^^ b, ?_⟩
  show IntKind.i64.wrap ((BitVec.ofInt 64 (a : Int) ^^^ BitVec.ofInt 64 (b : Int)).toNat : Int) = _
  rw [BitVec.toNat_xor, h1, h2]
  simp [IntKind.wrap, IntKind.bits, IntKind.signed]
  omega

theorem xor_shift (x : Nat) (hx : x < 4611686018427387904) : ∃ y : Nat, bits .xor .i64 (x : Int) ((x : Int) / 64) = (y : Int) := by
  have d : ((x : Int) / 64) = ((x / 64 : Nat) : Int) := by omega
  rw [d]
  exact bits_xor_i64 _ _ hx (by omega)

/-- block B holds a reader: bytes that lie ahead of it, and how many have been taken -/
def Rdr (w : World) (B p : Nat) : Prop :=
  ∃ (ao : Option Addr) (n cap cb off : Nat) (Z : Nat → Int), w.cell? ⟨B, 0, none⟩ = some (.slice ao n cap) ∧ w.cell? ⟨B, 1, none⟩ = some (.int .i64 p) ∧ w.frozen? ⟨B, 1, none⟩ = false ∧ B < w.heap.size ∧ n ≤ 2000 ∧ n ≤ cap ∧ cap ≤ 9223372036854775807 ∧
    (0 < n → ao = some ⟨cb, off, none⟩ ∧ cb < B) ∧ ∀ i, i < n → w.cell? ⟨cb, off + i, none⟩ = some (.int .u8 (Z i)) ∧ 0 ≤ Z i ∧ Z i ≤ 255

theorem Rdr.same {w w' : World} {B p : Nat} (h : Rdr w B p) (hs : ∀ k, k ≤ B → w'.heap[k]? = w.heap[k]?) : Rdr w' B p := by
  obtain ⟨ao, n, cap, cb, off, Z, a0, a1, a2, a3, a4, a5, a6, a7, a8⟩ := h
  refine ⟨ao, n, cap, cb, off, Z, (World.cell?_of_block (a := ⟨B, 0, none⟩) (hs B (Nat.le_refl _))).trans a0, (World.cell?_of_block (a := ⟨B, 1, none⟩) (hs B (Nat.le_refl _))).trans a1, ?_, ?_, a4, a5, a6, a7, fun i hi => ?_⟩
  · have := hs B (Nat.le_refl _)
    simp only [World.frozen?, this]
    simpa [World.frozen?] using a2
  · have := hs B (Nat.le_refl _)
    have h2 : w'.heap[B]? = some w.heap[B] := by rw [this]; exact Array.getElem?_eq_getElem a3
    exact (Array.getElem?_eq_some_iff.1 h2).1
  · have h0 : 0 < n := by omega
    exact ⟨(World.cell?_of_block (a := ⟨cb, off + i, none⟩) (hs cb (by have := (a7 h0).2; omega))).trans (a8 i hi).1, (a8 i hi).2⟩

theorem Rdr.keep {w w' : World} {B C p : Nat} (h : Rdr w B p) (hb : Below C w w') (hC : B < C) : Rdr w' B p := h.same (fun k hk => hb.block k (by omega))

theorem Chg.drewN {lo hi : Nat} {a w : World} (h : Chg lo hi a w) (n : Nat) : Chg lo hi a (w.drewN n) := ⟨h.os, h.tape, h.output, h.size, h.block⟩

/-- what a number that is taken leaves -/
def PickPost (B p n : Nat) (w : World) (e : Ending) (w' : World) : Prop :=
  ∃ x : Nat, x < n ∧ e = .returned (.int .i64 x) ∧ Rdr w' B (p + 1) ∧ Chg B (B + 1) w w' ∧ w'.heap.size = w.heap.size

theorem pick_post {B p n x : Nat} {w w1 : World} (hx : x < n) (h1 : Rdr w1 B (p + 1)) (h2 : Chg B (B + 1) w w1) (h3 : w1.heap.size = w.heap.size) (m : Nat) : PickPost B p n w (.returned (.int .i64 x)) (w1.drewN m) :=
  ⟨x, hx, rfl, h1.same (fun _ _ => rfl), h2.drewN m, h3⟩

theorem pick_post' {B p n x : Nat} {y : Int} {w w1 : World} (hx : x < n) (hy : y = (x : Int)) (h1 : Rdr w1 B (p + 1)) (h2 : Chg B (B + 1) w w1) (h3 : w1.heap.size = w.heap.size) (m : Nat) : PickPost B p n w (.returned (.int .i64 y)) (w1.drewN m) :=
  ⟨x, hx, by rw [hy], h1.same (fun _ _ => rfl), h2.drewN m, h3⟩

theorem pick_post0' {B p n x : Nat} {y : Int} {w w1 : World} (hx : x < n) (hy : y = (x : Int)) (h1 : Rdr w1 B (p + 1)) (h2 : Chg B (B + 1) w w1) (h3 : w1.heap.size = w.heap.size) : PickPost B p n w (.returned (.int .i64 y)) w1 :=
  ⟨x, hx, by rw [hy], h1, h2, h3⟩

theorem pick_post0 {B p n x : Nat} {w w1 : World} (hx : x < n) (h1 : Rdr w1 B (p + 1)) (h2 : Chg B (B + 1) w w1) (h3 : w1.heap.size = w.heap.size) : PickPost B p n w (.returned (.int .i64 x)) w1 :=
  ⟨x, hx, rfl, h1, h2, h3⟩

set_option maxHeartbeats 4000000 in
set_option maxRecDepth 100000 in
theorem pick_any (B p n : Nat) (w : World) (h : Rdr w B p) (hp : p ≤ 100000) (hn1 : 1 ≤ n) (hn2 : n ≤ 1000) :
    Calls Try.prog 71 #[.pointer (some ⟨B, 0, none⟩), .int .i64 n] w (PickPost B p n w) := by
  have hR : Rdr (w.setCell ⟨B, 1, none⟩ (.int .i64 ((p + 1 : Nat) : Int))) B (p + 1) := by
    obtain ⟨ao, l, cap, cb, off, Z, a0, a1, a2, a3, a4, a5, a6, a7, a8⟩ := h
    refine ⟨ao, l, cap, cb, off, Z, ?_, ?_, ?_, by simpa [World.setCell] using a3, a4, a5, a6, a7, fun i hi => ⟨?_, (a8 i hi).2⟩⟩
    · rw [World.cell?_setCell_other _ _ _ _ (by simp)]; exact a0
    · exact World.cell?_setCell_same' _ _ _ (by rw [a1]; rfl)
    · rw [World.frozen?_setCell]; exact a2
    · rw [World.cell?_setCell_other _ _ _ _ (by have := (a7 (by omega)).2; intro e; simp only [Addr.mk.injEq] at e; omega)]; exact (a8 i hi).1
  have hC : Chg B (B + 1) w (w.setCell ⟨B, 1, none⟩ (.int .i64 ((p + 1 : Nat) : Int))) := (Chg.refl _ _ _).setCell (p := ⟨B, 1, none⟩) (Nat.le_refl _) (Nat.lt_succ_self _) _
  have HS : (w.setCell ⟨B, 1, none⟩ (.int .i64 ((p + 1 : Nat) : Int))).heap.size = w.heap.size := by simp [World.setCell]
  have HR := Lib.hid hR
  have HC := Lib.hid hC
  have HSS := Lib.hid HS
  obtain ⟨ao, l, cap, cb, off, Z, a0, a1, a2, a3, a4, a5, a6, a7, a8⟩ := h
  clear hR hC HS a7 a8
  have HE := Lib.hid (show ((p + 1 : Nat) : Int) = (p : Int) + 1 by omega)
  go_enter Try.func71, Try.ntmps71
  go_upto_region 1 with fail
  go_cut [] (fun wx => Rdr wx B (p + 1) ∧ Chg B (B + 1) w wx ∧ wx.heap.size = w.heap.size)
  case first =>
    go_wp2_with fail
    go_meet
    exact ⟨by rw [← HE.out]; exact HR.out, by rw [← HE.out]; exact HC.out, by rw [← HE.out]; exact HSS.out⟩
  case rest =>
    obtain ⟨hr, hc, hs⟩ := hcut
    have HR2 := Lib.hid hr
    have HC2 := Lib.hid hc
    have HS2 := Lib.hid hs
    clear a0 a1 a2 a3 a4 a5 a6 hc hs HR HC HSS HE
    obtain ⟨ao, l, cap, cb, off, Z, a0, a1, a2, a3, a4, a5, a6, a7, a8⟩ := hr
    have hn1' : (1 : Int) ≤ n := by omega
    by_cases h0 : l = 0
    · subst h0
      clear a7 a8
      go_wp2
      go_ret
      exact pick_post0 (x := 0) (by omega) HR2.out HC2.out HS2.out
    · have h0' : 0 < l := by omega
      obtain ⟨rfl, h7⟩ := a7 h0'
      have hl0 : ((l : Int) == 0) = false := by rw [beq_eq_false_iff_ne]; omega
      have hl1 : (0 : Int) < l := by omega
      have A8 := Lib.hid a8
      clear a7 a8 h0
      by_cases hk : p < l
      · have hk' : (p : Int) < l := by omega
        obtain ⟨q1, q2, q3⟩ := A8.out p hk
        obtain ⟨z, hz⟩ : ∃ z : Nat, Z p = (z : Int) := ⟨(Z p).toNat, by omega⟩
        rw [hz] at q1 q3
        clear hz q2
        go_wp2
        go_ret
        exact pick_post0' (x := z % n) (Nat.mod_lt _ (by omega)) (Int.natCast_emod z n).symm HR2.out HC2.out HS2.out
      · have hk' : ¬ (p : Int) < l := by omega
        have m1 : p % l < l := Nat.mod_lt _ h0'
        have m2 : (p * 7 + 3) % l < l := Nat.mod_lt _ h0'
        obtain ⟨i1, e1⟩ : ∃ i1, i1 = p % l := ⟨_, rfl⟩
        obtain ⟨i2, e2⟩ : ∃ i2, i2 = (p * 7 + 3) % l := ⟨_, rfl⟩
        have t1 : (p : Int) % (l : Int) = (i1 : Int) := by rw [e1]; exact (Int.natCast_emod _ _).symm
        have t2 : ((p : Int) * 7 + 3) % (l : Int) = (i2 : Int) := by rw [e2]; simp
        obtain ⟨k, e3'⟩ : ∃ k, k = p / l := ⟨_, rfl⟩
        have t3 : k ≤ p := by rw [e3']; exact Nat.div_le_self p l
        have e3 : (p : Int) / (l : Int) = (k : Int) := by rw [e3']; exact (Int.natCast_ediv p l).symm
        rw [← e1] at m1
        rw [← e2] at m2
        obtain ⟨q1, q2, q3⟩ := A8.out i1 m1
        obtain ⟨p1, p2, p3⟩ := A8.out i2 m2
        obtain ⟨z1, hz1⟩ : ∃ z : Nat, Z i1 = (z : Int) := ⟨(Z i1).toNat, by omega⟩
        obtain ⟨z2, hz2⟩ : ∃ z : Nat, Z i2 = (z : Int) := ⟨(Z i2).toNat, by omega⟩
        rw [hz1] at q1 q3
        rw [hz2] at p1 p3
        have m1' : (i1 : Int) < l := by omega
        have m2' : (i2 : Int) < l := by omega
        have hlne : ¬ (l : Int) = 0 := by omega
        clear e1 e2 e3' hz1 hz2 p2 q2
        go_upto_region 7 with fail
        go_cut [6] (fun s6 wy => ∃ (x m : Nat), x ≤ 1000000000 ∧ s6 = .int .i64 x ∧ wy = wc.drewN m)
        case first =>
          go_quiet (fail)
          go_wp2_with fail
          go_meet
          exact ⟨z1 * 131 + z2 * 1117 + p * 29 + k * 53, nq, by omega, by simp, rfl⟩
        case rest =>
          obtain ⟨x, m, hx, rfl, rfl⟩ := hcut
          clear q1 p1 t1 t2 e3 a0 a1
          obtain ⟨y, hy⟩ := xor_shift x (by omega)
          go_wp2
          go_ret
          exact pick_post' (x := y % n) (Nat.mod_lt _ (by omega)) (Int.natCast_emod y n).symm HR2.out HC2.out HS2.out m

/-- a new reader -/
def OpenPost (w : World) (e : Ending) (w' : World) : Prop :=
  e = .returned (.pointer (some ⟨w.heap.size, 0, none⟩)) ∧ Rdr w' w.heap.size 0 ∧ Below w.heap.size w w' ∧ w'.heap.size = w.heap.size + 1

/-- bytes that a call was handed -/
def RdB (hi : Nat) (w : World) (v : Value) (n : Nat) : Prop :=
  ∃ (ao : Option Addr) (cap cb off : Nat) (Z : Nat → Int), v = .slice ao n cap ∧ n ≤ cap ∧ cap ≤ 9223372036854775807 ∧ (0 < n → ao = some ⟨cb, off, none⟩ ∧ cb < hi) ∧ ∀ i, i < n → w.cell? ⟨cb, off + i, none⟩ = some (.int .u8 (Z i)) ∧ 0 ≤ Z i ∧ Z i ≤ 255

theorem two_cells {w : World} {B : Nat} {x y : Value} {t : TypeId} (h : w.heap[B]? = some (.cells #[x, y] t (0, 0))) : w.cell? ⟨B, 0, none⟩ = some x ∧ w.cell? ⟨B, 1, none⟩ = some y ∧ w.frozen? ⟨B, 1, none⟩ = false ∧ B < w.heap.size := by
  refine ⟨by simp [World.cell?, h], by simp [World.cell?, h], by simp [World.frozen?, h], lt_of_block h⟩

theorem open_rdr {w : World} {n cb off m c2 : Nat} {ao : Option Addr} {Z : Nat → Int} (hm : m ≤ 2000) (hmn : m ≤ n) (hc : m ≤ c2) (hc2 : c2 ≤ 9223372036854775807) (h0 : 0 < m → ao = some ⟨cb, off, none⟩ ∧ cb < w.heap.size)
    (hz : ∀ i, i < n → w.cell? ⟨cb, off + i, none⟩ = some (.int .u8 (Z i)) ∧ 0 ≤ Z i ∧ Z i ≤ 255) (t : TypeId) : Rdr (w.alloc (.cells #[.slice ao m c2, .int .i64 0] t)) w.heap.size 0 := by
  obtain ⟨c0, c1, c2', c3⟩ := two_cells (heap_alloc_new w (.cells #[.slice ao m c2, .int .i64 0] t))
  refine ⟨ao, m, c2, cb, off, Z, c0, c1, c2', c3, hm, hc, hc2, h0, fun i hi => ⟨?_, (hz i (by omega)).2⟩⟩
  have h1 := (h0 (by omega)).2
  exact (World.cell?_of_block (a := ⟨cb, off + i, none⟩) (Below.heap_alloc w _ cb h1)).trans (hz i (by omega)).1

set_option maxHeartbeats 1000000 in
set_option maxRecDepth 100000 in
theorem open_any (v : Value) (n hi : Nat) (w : World) (hv : RdB hi w v n) (hh : hi ≤ w.heap.size) :
    Calls Try.prog 46 #[v] w (OpenPost w) := by
  obtain ⟨ao, cap, cb, off, Z, rfl, a1, a2, a3, a4⟩ := hv
  by_cases hn : 2000 < n
  · obtain ⟨rfl, hlt⟩ := a3 (by omega)
    have HA := Lib.hid a4
    have hn' : (2000 : Int) < n := by omega
    have hc' : (2000 : Int) ≤ cap := by omega
    have HO := Lib.hid (open_rdr (w := w) (m := 2000) (c2 := cap) (ao := some ⟨cb, off, none⟩) (Nat.le_refl _) (by omega) (by omega) a2 (fun _ => ⟨rfl, by omega⟩) a4 75)
    clear a3 a4
    go_enter Try.func46, Try.ntmps46
    go_wp2
    go_ret
    exact ⟨rfl, HO.out, (Below.refl _ _).alloc (Nat.le_refl _) _, by simp⟩
  · have hn' : ¬ (2000 : Int) < n := by omega
    have HO := Lib.hid (open_rdr (w := w) (m := n) (c2 := cap) (ao := ao) (by omega) (Nat.le_refl _) a1 a2 (fun h => ⟨(a3 h).1, by have := (a3 h).2; omega⟩) a4 75)
    clear a3 a4
    go_enter Try.func46, Try.ntmps46
    go_wp2
    go_ret
    exact ⟨rfl, HO.out, (Below.refl _ _).alloc (Nat.le_refl _) _, by simp⟩

end Go.Proofs.Ythelaffjpmcdbaa
