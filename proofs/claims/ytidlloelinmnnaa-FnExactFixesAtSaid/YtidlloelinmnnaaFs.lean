/- Lists of corrections that a call is making. -/
import Derived.Test.YtidlloelinmnnaaFb
import Derived.Test.YtidlloelinmnnaaPrM
namespace Go.Proofs.Ytidlloelinmnnaa
open Go.RowKit
set_option linter.unusedVariables false

/-- corrections that the call is making -/
def Labs (B : Nat) (w : World) (v : Value) (n : Nat) (Z : Nat → Int) : Prop := w.ownsRow B 63 4 v n (nsV (fnL Z (n * 4)))
theorem Labs.owT {B : Nat} {w : World} {v : Value} {n : Nat} {Z : Nat → Int} (h : Labs B w v n Z) (hr : ∀ j, j < n * 4 → -9223372036854775808 ≤ Z j ∧ Z j ≤ 9223372036854775807) : OwT B w.heap.size w v n Z := by
  obtain ⟨hlen, ⟨rfl, h0⟩ | ⟨b, cap, cur, rfl, hB, hb, hc, hcap, hcs, ht⟩⟩ := h
  · exact Or.inl ⟨rfl, h0⟩
  · have hlt : b < w.heap.size := (Array.getElem?_eq_some_iff.1 hb).1
    refine Or.inr ⟨b, cur.size, cap, fun i => (cur[i]?).getD (.int .i64 0), rfl, hB, hlt, ⟨cur, hb, rfl, fun i hi => by simp [hi]⟩, by rw [hcs]; omega, hc, by unfold maxLen at hcap; omega, fun i hi => ?_, hr⟩
    have e1 : cur.toList[i]? = (nsV (fnL Z (n * 4)))[i]? := by rw [← ht, List.getElem?_take_of_lt (by omega)]
    have e2 : cur[i]? = some (.int .i64 (Z i)) := by rw [← Array.getElem?_toList, e1, nsV_at _ _ (by rw [fnL_len]; exact hi), fnL_z Z _ i hi]
    show (cur[i]?).getD _ = _
    rw [e2]; rfl
theorem Labs.below {B C : Nat} {w w' : World} {v : Value} {n : Nat} {Z : Nat → Int} (h : Labs B w v n Z) (hb : Below C w w') (hC : w.heap.size ≤ C) : Labs B w' v n Z :=
  ownsRow_below h hb (fun k hk => by have := (h.lt k hk).2; omega)
theorem labs_none (B : Nat) (w : World) (Z : Nat → Int) : Labs B w (.slice none 0 0) 0 Z := ⟨rfl, Or.inl ⟨rfl, rfl⟩⟩
theorem labs_lit (w : World) (Z : Nat → Int) : Labs w.heap.size (w.alloc (.cells #[] 63)) (.slice (some ⟨w.heap.size, 0, none⟩) 0 0) 0 Z := World.ownsRow_lit w #[] 0 (Nat.le_refl _) (Nat.zero_le _) (by simp)
theorem labs_push {B : Nat} {w : World} {v : Value} {n : Nat} {Z : Nat → Int} {a b c d : Int} (h : w.ownsRow B 63 4 v (n + 1) (nsV (fnL Z (n * 4)) ++ [.int .i64 a, .int .i64 b, .int .i64 c, .int .i64 d])) (ea : a = Z (n * 4)) (eb : b = Z (n * 4 + 1)) (ec : c = Z (n * 4 + 2)) (ed : d = Z (n * 4 + 3)) : Labs B w v (n + 1) Z := by
  subst ea eb ec ed
  unfold Labs
  rw [Nat.add_mul]
  have e : fnL Z (n * 4 + 1 * 4) = fnL Z (n * 4) ++ [Z (n * 4), Z (n * 4 + 1), Z (n * 4 + 2), Z (n * 4 + 3)] := by
    show ((((fnL Z (n * 4)) ++ [Z (n * 4)]) ++ [Z (n * 4 + 1)]) ++ [Z (n * 4 + 2)]) ++ [Z (n * 4 + 3)] = _
    simp
  rw [e]
  simpa [nsV] using h
theorem labs_len (n : Nat) (Z : Nat → Int) : (nsV (fnL Z (n * 4))).length = n * 4 := by simp [nsV, fnL_len]

theorem RdT.at {lo hi : Nat} {w wr : World} {v : Value} {n : Nat} {Z : Nat → Int} (h : RdT lo hi w v n Z) (hb : Below w.heap.size w wr) (hh : hi ≤ w.heap.size) : RdT lo hi wr v n Z := h.same (SameIn.below hb hh)
theorem RdT.open {lo hi : Nat} {w : World} {v : Value} {n : Nat} {Z : Nat → Int} (h : RdT lo hi w v n Z) (h0 : 0 < n) :
    ∃ b off cap, v = .slice (some ⟨b, off, none⟩) n cap ∧ n ≤ cap ∧ cap ≤ 9223372036854775807 ∧ lo ≤ b ∧ b < hi ∧ ∀ i, i < n * 4 → w.cell? ⟨b, off + i, none⟩ = some (.int .i64 (Z i)) := by
  obtain ⟨ao, cap, b, off, rfl, h2, h3, h4, h5, h6⟩ := h
  obtain ⟨rfl, a, b⟩ := h5 h0
  exact ⟨_, _, _, rfl, h2, h3, a, b, h6⟩

theorem four_of {w : World} {b off n : Nat} {Z : Nat → Int} (h : ∀ i, i < n * 4 → w.cell? ⟨b, off + i, none⟩ = some (.int .i64 (Z i))) {k : Nat} (hk : k < n) :
    w.cell? ⟨b, off + k * 4, none⟩ = some (.int .i64 (Z (k * 4))) ∧ w.cell? ⟨b, off + k * 4 + 1, none⟩ = some (.int .i64 (Z (k * 4 + 1))) ∧ w.cell? ⟨b, off + k * 4 + 2, none⟩ = some (.int .i64 (Z (k * 4 + 2))) ∧ w.cell? ⟨b, off + k * 4 + 3, none⟩ = some (.int .i64 (Z (k * 4 + 3))) :=
  ⟨h _ (by omega), h (k * 4 + 1) (by omega), h (k * 4 + 2) (by omega), h (k * 4 + 3) (by omega)⟩

theorem cellsLb {w : World} {b : Nat} {x y z u : Value} {t : TypeId} (h : w.heap[b]? = some (.cells #[x, y, z, u] t (0, 0))) :
    w.cell? ⟨b, 0, none⟩ = some x ∧ w.cell? ⟨b, 1, none⟩ = some y ∧ w.cell? ⟨b, 2, none⟩ = some z ∧ w.cell? ⟨b, 3, none⟩ = some u :=
  ⟨by simp [World.cell?, h], by simp [World.cell?, h], by simp [World.cell?, h], by simp [World.cell?, h]⟩

end Go.Proofs.Ytidlloelinmnnaa
