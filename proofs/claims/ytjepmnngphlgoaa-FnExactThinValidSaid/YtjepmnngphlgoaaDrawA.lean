/- The reader of a code, from which the draws of the promises' laws are made. -/
import Derived.Test.YtjepmnngphlgoaaSame
import Derived.Laws.Bits64
namespace Go.Proofs.Ytjepmnngphlgoaa
open Go.RowKit
set_option linter.unusedVariables false

theorem bits_xor_i64 (a b : Nat) (ha : a < 4611686018427387904) (hb : b < 4611686018427387904) : ∃ y : Nat, bits .xor .i64 (a : Int) (b : Int) = (y : Int) := by
  have hx : a ^^^ b < 2 ^ 62 := Nat.xor_lt_two_pow (by omega) (by omega)
  have h1 : (BitVec.ofInt 64 (a : Int)).toNat = a := by
    rw [BitVec.ofInt_natCast, BitVec.toNat_ofNat]; exact Nat.mod_eq_of_lt (by omega)
  have h2 : (BitVec.ofInt 64 (b : Int)).toNat = b := by
    rw [BitVec.ofInt_natCast, BitVec.toNat_ofNat]; exact Nat.mod_eq_of_lt (by omega)
  refine ⟨a ^^^ b, ?_⟩
  show IntKind.i64.wrap ((BitVec.ofInt 64 (a : Int) ^^^ BitVec.ofInt 64 (b : Int)).toNat : Int) = _
  rw [BitVec.toNat_xor, h1, h2]
  simp [IntKind.wrap, IntKind.bits, IntKind.signed]
  omega

theorem xor_shift (x : Nat) (hx : x < 4611686018427387904) : ∃ y : Nat, bits .xor .i64 (x : Int) ((x : Int) / 64) = (y : Int) := by
  have d : ((x : Int) / 64) = ((x / 64 : Nat) : Int) := by omega
  rw [d]
  exact bits_xor_i64 _ _ hx (by omega)

/-- block B holds a reader: bytes that lie ahead of it, and how many have been taken -/
def Rdr (w : World) (B p : Nat) : Prop :=
  ∃ (ao : Option Addr) (n cap cb off : Nat) (Z : Nat → Int), w.cell? ⟨B, 0, none⟩ = some (.slice ao n cap) ∧ w.cell? ⟨B, 1, none⟩ = some (.int .i64 p) ∧ w.frozen? ⟨B, 1, none⟩ = false ∧ B < w.heap.size ∧ n ≤ 2000 ∧ n ≤ cap ∧ cap ≤ 9223372036854775807 ∧
    (0 < n → ao = some ⟨cb, off, none⟩ ∧ cb < B) ∧ ∀ i, i < n → w.cell? ⟨cb, off + i, none⟩ = some (.int .u8 (Z i)) ∧ 0 ≤ Z i ∧ Z i ≤ 255

theorem Rdr.same {w w' : World} {B p : Nat} (h : Rdr w B p) (hs : ∀ k, k ≤ B → w'.heap[k]? = w.heap[k]?) : Rdr w' B p := by
  obtain ⟨ao, n, cap, cb, off, Z, a0, a1, a2, a3, a4, a5, a6, a7, a8⟩ := h
  refine ⟨ao, n, cap, cb, off, Z, (World.cell?_of_block (a := ⟨B, 0, none⟩) (hs B (Nat.le_refl _))).trans a0, (World.cell?_of_block (a := ⟨B, 1, none⟩) (hs B (Nat.le_refl _))).trans a1, ?_, ?_, a4, a5, a6, a7, fun i hi => ?_⟩
  · have := hs B (Nat.le_refl _)
    simp only [World.frozen?, this]
    simpa [World.frozen?] using a2
  · have := hs B (Nat.le_refl _)
    have h2 : w'.heap[B]? = some w.heap[B] := by rw [this]; exact Array.getElem?_eq_getElem a3
    exact (Array.getElem?_eq_some_iff.1 h2).1
  · have h0 : 0 < n := by omega
    exact ⟨(World.cell?_of_block (a := ⟨cb, off + i, none⟩) (hs cb (by have := (a7 h0).2; omega))).trans (a8 i hi).1, (a8 i hi).2⟩

theorem Rdr.keep {w w' : World} {B C p : Nat} (h : Rdr w B p) (hb : Below C w w') (hC : B < C) : Rdr w' B p := h.same (fun k hk => hb.block k (by omega))

theorem Chg.drewN {lo hi : Nat} {a w : World} (h : Chg lo hi a w) (n : Nat) : Chg lo hi a (w.drewN n) := ⟨h.os, h.tape, h.output, h.size, h.block⟩

/-- what a number that is taken leaves -/
def PickPost (B p n : Nat) (w : World) (e : Ending) (w' : World) : Prop :=
  ∃ x : Nat, x < n ∧ e = .returned (.int .i64 x) ∧ Rdr w' B (p + 1) ∧ Chg B (B + 1) w w' ∧ w'.heap.size = w.heap.size

theorem pick_post {B p n x : Nat} {w w1 : World} (hx : x < n) (h1 : Rdr w1 B (p + 1)) (h2 : Chg B (B + 1) w w1) (h3 : w1.heap.size = w.heap.size) (m : Nat) : PickPost B p n w (.returned (.int .i64 x)) (w1.drewN m) :=
  ⟨x, hx, rfl, h1.same (fun _ _ => rfl), h2.drewN m, h3⟩

theorem pick_post' {B p n x : Nat} {y : Int} {w w1 : World} (hx : x < n) (hy : y = (x : Int)) (h1 : Rdr w1 B (p + 1)) (h2 : Chg B (B + 1) w w1) (h3 : w1.heap.size = w.heap.size) (m : Nat) : PickPost B p n w (.returned (.int .i64 y)) (w1.drewN m) :=
  ⟨x, hx, by rw [hy], h1.same (fun _ _ => rfl), h2.drewN m, h3⟩

theorem pick_post0' {B p n x : Nat} {y : Int} {w w1 : World} (hx : x < n) (hy : y = (x : Int)) (h1 : Rdr w1 B (p + 1)) (h2 : Chg B (B + 1) w w1) (h3 : w1.heap.size = w.heap.size) : PickPost B p n w (.returned (.int .i64 y)) w1 :=
  ⟨x, hx, by rw [hy], h1, h2, h3⟩

theorem pick_post0 {B p n x : Nat} {w w1 : World} (hx : x < n) (h1 : Rdr w1 B (p + 1)) (h2 : Chg B (B + 1) w w1) (h3 : w1.heap.size = w.heap.size) : PickPost B p n w (.returned (.int .i64 x)) w1 :=
  ⟨x, hx, rfl, h1, h2, h3⟩

/-- a new reader -/
def OpenPost (w : World) (e : Ending) (w' : World) : Prop :=
  e = .returned (.pointer (some ⟨w.heap.size, 0, none⟩)) ∧ Rdr w' w.heap.size 0 ∧ Below w.heap.size w w' ∧ w'.heap.size = w.heap.size + 1

/-- bytes that a call was handed -/
def RdB (hi : Nat) (w : World) (v : Value) (n : Nat) : Prop :=
  ∃ (ao : Option Addr) (cap cb off : Nat) (Z : Nat → Int), v = .slice ao n cap ∧ n ≤ cap ∧ cap ≤ 9223372036854775807 ∧ (0 < n → ao = some ⟨cb, off, none⟩ ∧ cb < hi) ∧ ∀ i, i < n → w.cell? ⟨cb, off + i, none⟩ = some (.int .u8 (Z i)) ∧ 0 ≤ Z i ∧ Z i ≤ 255

theorem two_cells {w : World} {B : Nat} {x y : Value} {t : TypeId} (h : w.heap[B]? = some (.cells #[x, y] t (0, 0))) : w.cell? ⟨B, 0, none⟩ = some x ∧ w.cell? ⟨B, 1, none⟩ = some y ∧ w.frozen? ⟨B, 1, none⟩ = false ∧ B < w.heap.size := by
  refine ⟨by simp [World.cell?, h], by simp [World.cell?, h], by simp [World.frozen?, h], lt_of_block h⟩

theorem open_rdr {w : World} {n cb off m c2 : Nat} {ao : Option Addr} {Z : Nat → Int} (hm : m ≤ 2000) (hmn : m ≤ n) (hc : m ≤ c2) (hc2 : c2 ≤ 9223372036854775807) (h0 : 0 < m → ao = some ⟨cb, off, none⟩ ∧ cb < w.heap.size)
    (hz : ∀ i, i < n → w.cell? ⟨cb, off + i, none⟩ = some (.int .u8 (Z i)) ∧ 0 ≤ Z i ∧ Z i ≤ 255) (t : TypeId) : Rdr (w.alloc (.cells #[.slice ao m c2, .int .i64 0] t)) w.heap.size 0 := by
  obtain ⟨c0, c1, c2', c3⟩ := two_cells (heap_alloc_new w (.cells #[.slice ao m c2, .int .i64 0] t))
  refine ⟨ao, m, c2, cb, off, Z, c0, c1, c2', c3, hm, hc, hc2, h0, fun i hi => ⟨?_, (hz i (by omega)).2⟩⟩
  have h1 := (h0 (by omega)).2
  exact (World.cell?_of_block (a := ⟨cb, off + i, none⟩) (Below.heap_alloc w _ cb h1)).trans (hz i (by omega)).1

end Go.Proofs.Ytjepmnngphlgoaa
