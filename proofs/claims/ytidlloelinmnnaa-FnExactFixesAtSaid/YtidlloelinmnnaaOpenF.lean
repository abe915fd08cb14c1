/- The arguments of an exact law, opened: a list of corrections; a correction. -/
import Derived.Test.YtidlloelinmnnaaOpenL
import Derived.Test.YtidlloelinmnnaaFb
import Derived.Lib.SmallJoins
namespace Go.Proofs.Ytidlloelinmnnaa
open Go.ChangeShapes Go.WideShapes Go.ChangeAt Go.RowKit Go.Deep Go.Joins
set_option linter.unusedVariables false

theorem Try.cellsLb : Try.prog.cellsOf 66 = 4 := by kernel_rfl

set_option maxRecDepth 20000 in
theorem label_cells {H : Type} {enc : TypeId × Value → H} {W : World} {held : Bool} {fuel : Nat} {cs : List Value} {x : DataW H × List MemPlace} {spare : Nat → Bool} {base : Nat} (hl : cs.length = 4) (h : DataW.trod enc Try.prog W base spare held fuel 66 cs = some x) :
    ∃ a b c d : Int, cs = [.int .i64 a, .int .i64 b, .int .i64 c, .int .i64 d] ∧ (Lit.int .i64 a).wf = true ∧ (Lit.int .i64 b).wf = true ∧ (Lit.int .i64 c).wf = true ∧ (Lit.int .i64 d).wf = true := by
  obtain ⟨y0, y1, y2, y3, n, _, _, h0, h1, h2, h3⟩ := trod_struct4 Try.underlying66 h
  obtain ⟨v0, v1, v2, v3, rfl⟩ : ∃ v0 v1 v2 v3, cs = [v0, v1, v2, v3] := by
    rcases cs with _ | ⟨v0, _ | ⟨v1, _ | ⟨v2, _ | ⟨v3, _ | ⟨v4, r⟩⟩⟩⟩⟩
    · simp at hl
    · simp at hl
    · simp at hl
    · simp at hl
    · exact ⟨v0, v1, v2, v3, rfl⟩
    · simp at hl
  simp only [Try.cellsI, List.drop_zero, List.drop_succ_cons, List.take_succ_cons, List.take_zero] at h0 h1 h2 h3
  obtain ⟨a, e0, _, w0⟩ := DataW.trod_int Try.underlying3 h0
  obtain ⟨b, e1, _, w1⟩ := DataW.trod_int Try.underlying3 h1
  obtain ⟨c, e2, _, w2⟩ := DataW.trod_int Try.underlying3 h2
  obtain ⟨d, e3, _, w3⟩ := DataW.trod_int Try.underlying3 h3
  simp only [List.cons.injEq, and_true] at e0 e1 e2 e3
  exact ⟨a, b, c, d, by rw [e0, e1, e2, e3], w0, w1, w2, w3⟩

set_option maxRecDepth 20000 in
theorem open_labels {H : Type} {enc : TypeId × Value → H} {W : World} {held : Bool} {v : Value} {d : DataW H} {ps : List MemPlace} (hv : ∃ a l c, v = .slice a l c) (h : DataW.Trod enc Try.prog W 0 (fun _ => true) held 23 v d ps) :
    ∃ n z, RdT 0 W.heap.size W v n z := by
  obtain ⟨a, l, c, rfl⟩ := hv
  obtain ⟨fuel, hf⟩ := h
  rcases open_slice Try.underlying23 hf with ⟨hcs, _⟩ | ⟨x, len, cap, m, n, D, Pl, hcs, _, hl, hm, hmm, _, hx⟩
  · simp [Value.cells] at hcs
    obtain ⟨rfl, rfl, rfl⟩ := hcs
    exact ⟨0, fun _ => 0, none, 0, 0, 0, rfl, Nat.le_refl _, by omega, fun i hi => by omega, fun h => by omega, fun i hi => by omega⟩
  · simp [Value.cells] at hcs
    obtain ⟨rfl, rfl, rfl⟩ := hcs
    have hmc : c ≤ 9223372036854775807 := by unfold maxLen at hm; omega
    simp only [if_true] at hmm
    have each : ∀ i, i < m → ∃ q : Int × Int × Int × Int, (W.cell? (x.add (i * 4)) = some (.int .i64 q.1) ∧ W.cell? (x.add (i * 4 + 1)) = some (.int .i64 q.2.1) ∧ W.cell? (x.add (i * 4 + 2)) = some (.int .i64 q.2.2.1) ∧ W.cell? (x.add (i * 4 + 3)) = some (.int .i64 q.2.2.2)) ∧
        (Lit.int .i64 q.1).wf = true ∧ (Lit.int .i64 q.2.1).wf = true ∧ (Lit.int .i64 q.2.2.1).wf = true ∧ (Lit.int .i64 q.2.2.2).wf = true := by
      intro i hi
      obtain ⟨cs', h1, h2⟩ := hx i hi
      rw [Try.cellsLb] at h1
      obtain ⟨_, hlen, hcell⟩ := World.cells?_some h1
      obtain ⟨a, b, c, d, rfl, w0, w1, w2, w3⟩ := label_cells hlen h2
      refine ⟨(a, b, c, d), ⟨?_, ?_, ?_, ?_⟩, w0, w1, w2, w3⟩
      · have := hcell 0 (by omega); rw [add_add] at this; simpa using this
      · have := hcell 1 (by omega); rw [add_add] at this; simpa using this
      · have := hcell 2 (by omega); rw [add_add] at this; simpa using this
      · have := hcell 3 (by omega); rw [add_add] at this; simpa using this
    obtain ⟨q, hq⟩ := choose_lt each
    have hz : ∀ j, j < l * 4 → ∃ y : Int, y = (match j % 4 with | 0 => (q (j / 4)).1 | 1 => (q (j / 4)).2.1 | 2 => (q (j / 4)).2.2.1 | _ => (q (j / 4)).2.2.2) ∧ W.cell? (x.add j) = some (.int .i64 y) ∧ (Lit.int .i64 y).wf = true := by
      intro j hj
      obtain ⟨⟨c0, c1, c2, c3⟩, w0, w1, w2, w3⟩ := hq (j / 4) (by omega)
      have h4 : j % 4 = 0 ∨ j % 4 = 1 ∨ j % 4 = 2 ∨ j % 4 = 3 := by omega
      rcases h4 with h | h | h | h
      · exact ⟨_, rfl, by rw [h]; rw [show j / 4 * 4 = j by omega] at c0; exact c0, by rw [h]; exact w0⟩
      · exact ⟨_, rfl, by rw [h]; rw [show j / 4 * 4 + 1 = j by omega] at c1; exact c1, by rw [h]; exact w1⟩
      · exact ⟨_, rfl, by rw [h]; rw [show j / 4 * 4 + 2 = j by omega] at c2; exact c2, by rw [h]; exact w2⟩
      · exact ⟨_, rfl, by rw [h]; rw [show j / 4 * 4 + 3 = j by omega] at c3; exact c3, by rw [h]; exact w3⟩
    by_cases h0 : 0 < l
    · obtain ⟨b, off, spot⟩ := x
      obtain ⟨_, _, hc0, _⟩ := hz 0 (by omega)
      have hspot : spot = none := by simpa [Addr.add] using World.cell?_spot hc0
      subst hspot
      refine ⟨l, fun j => (match j % 4 with | 0 => (q (j / 4)).1 | 1 => (q (j / 4)).2.1 | 2 => (q (j / 4)).2.2.1 | _ => (q (j / 4)).2.2.2), _, c, b, off, rfl, hl, hmc, fun j hj => ?_, fun _ => ⟨rfl, Nat.zero_le _, World.block_lt_of_cell? _ _ hc0⟩, fun j hj => ?_⟩
      · obtain ⟨y, hy, _, hw⟩ := hz j hj
        show _ ≤ (match j % 4 with | 0 => (q (j / 4)).1 | 1 => (q (j / 4)).2.1 | 2 => (q (j / 4)).2.2.1 | _ => (q (j / 4)).2.2.2) ∧ (match j % 4 with | 0 => (q (j / 4)).1 | 1 => (q (j / 4)).2.1 | 2 => (q (j / 4)).2.2.1 | _ => (q (j / 4)).2.2.2) ≤ _
        rw [← hy]
        exact wf_range hw
      · obtain ⟨y, hy, hc, _⟩ := hz j hj
        show _ = some (Value.int .i64 (match j % 4 with | 0 => (q (j / 4)).1 | 1 => (q (j / 4)).2.1 | 2 => (q (j / 4)).2.2.1 | _ => (q (j / 4)).2.2.2))
        rw [← hy]
        rwa [add_none] at hc
    · obtain rfl : l = 0 := by omega
      exact ⟨0, fun _ => 0, some x, c, 0, 0, rfl, hl, hmc, fun i hi => by omega, fun h => by omega, fun i hi => by omega⟩

set_option maxRecDepth 20000 in
theorem open_label {H : Type} {enc : TypeId × Value → H} {W : World} {held : Bool} {v : Value} {d : DataW H} {ps : List MemPlace} {r : Reach} {b0 : Nat} (hv : Value.okWide Try.prog W r b0 66 v) (h : DataW.Trod enc Try.prog W 0 (fun _ => true) held 66 v d ps) :
    ∃ x y a g : Int, v = .agg #[.int .i64 x, .int .i64 y, .int .i64 a, .int .i64 g] ∧ ((-9223372036854775808 ≤ x ∧ x ≤ 9223372036854775807) ∧ (-9223372036854775808 ≤ y ∧ y ≤ 9223372036854775807) ∧ (-9223372036854775808 ≤ a ∧ a ≤ 9223372036854775807) ∧ (-9223372036854775808 ≤ g ∧ g ≤ 9223372036854775807)) := by
  obtain ⟨v0, v1, v2, v3, y0, y1, y2, y3, n, rfl, _, _, h0, h1, h2, h3⟩ := open_agg4 Try.underlying66 (by kernel_rfl) Try.cellsLb hv h
  obtain ⟨a, e0, _, w0⟩ := DataW.trod_int Try.underlying3 h0
  obtain ⟨b, e1, _, w1⟩ := DataW.trod_int Try.underlying3 h1
  obtain ⟨c, e2, _, w2⟩ := DataW.trod_int Try.underlying3 h2
  obtain ⟨e, e3, _, w3⟩ := DataW.trod_int Try.underlying3 h3
  simp only [List.cons.injEq, and_true] at e0 e1 e2 e3
  subst e0 e1 e2 e3
  exact ⟨a, b, c, e, rfl, wf_range w0, wf_range w1, wf_range w2, wf_range w3⟩

end Go.Proofs.Ytidlloelinmnnaa
