/- The marks that ranges over functions leave in a loop: many of them, taken at the return. No program is named here. -/
import Derived.Test.YtdjlobppnhokoaaBase
import Derived.RangeFuncLeaves
import Derived.RangeFuncRecord
import Derived.RangeFuncFrom
import Derived.RangeFuncNested
namespace Go.Proofs.Ytdjlobppnhokoaa
open Go Go.RowKit
set_option linter.unusedVariables false

/-- nothing has turned but blocks that are no cells, from B on -/
structure ShutB (B : Nat) (W W' : World) : Prop where
  os : W'.os = W.os
  tape : W'.tape = W.tape
  output : W'.output = W.output
  size : W'.heap.size = W.heap.size
  low : ∀ k, k < B → W'.heap[k]? = W.heap[k]?
  cells : ∀ (k : Nat) (o : Obj), W.heap[k]? = some o → o.isCells = true → W'.heap[k]? = some o

theorem ShutB.refl (B : Nat) (W : World) : ShutB B W W := ⟨rfl, rfl, rfl, rfl, fun _ _ => rfl, fun _ _ h _ => h⟩
theorem ShutB.below {B : Nat} {W W' : World} (h : ShutB B W W') : Below B W W' := ⟨h.os, h.tape, h.output, by rw [h.size]; exact Nat.le_refl _, h.low⟩
theorem ShutB.put {B D : Nat} {W W' : World} {o : Obj} (h : ShutB B (W.putObj D o) W') (hB : B ≤ D) (hD : W.heap[D]? = some (.deferred (some []))) : ShutB B W W' :=
  ⟨h.os, h.tape, h.output, h.size.trans World.putObj_size, fun k hk => (h.low k hk).trans (World.putObj_heap_other (by omega)), fun k o' ho hc =>
    h.cells k o' ((World.putObj_heap_other (by intro e; subst e; rw [hD] at ho; cases ho; cases hc)).trans ho) hc⟩
theorem ShutB.row {B b : Nat} {W W' : World} {t : TypeId} {n : Nat} {f : Nat → Value} (h : ShutB B W W') (hr : W.rowIs b t n f) : W'.rowIs b t n f := by
  obtain ⟨cs, h1, h2⟩ := hr
  exact ⟨cs, h.cells _ _ h1 rfl, h2⟩

abbrev mark (D : Nat) : Deferred := { target := .collected D, args := #[] }

/-- the marks ds: each its own block from B on, below N, open -/
def Coll (B N : Nat) (ds : List Deferred) (W : World) : Prop :=
  ∃ Ds : List Nat, ds = Ds.map mark ∧ Ds.Nodup ∧ ∀ D, D ∈ Ds → B ≤ D ∧ D < N ∧ W.heap[D]? = some (.deferred (some []))

theorem Coll.nil {B N : Nat} {W : World} : Coll B N [] W := ⟨[], rfl, List.nodup_nil, fun _ h => by cases h⟩
theorem Coll.cons {B N D : Nat} {ds : List Deferred} {W : World} (h : Coll B N ds W) (hB : B ≤ D) (hN : N ≤ D) (hD : W.heap[D]? = some (.deferred (some []))) : Coll B (D + 1) (mark D :: ds) W := by
  obtain ⟨Ds, rfl, h1, h2⟩ := h
  refine ⟨D :: Ds, rfl, List.nodup_cons.2 ⟨fun hm => by have := (h2 D hm).2.1; omega, h1⟩, fun E hE => ?_⟩
  rcases List.mem_cons.1 hE with rfl | hE
  · exact ⟨hB, by omega, hD⟩
  · have := h2 E hE
    exact ⟨this.1, by omega, this.2.2⟩
theorem Coll.mono {B N N' : Nat} {ds : List Deferred} {W : World} (h : Coll B N ds W) (hN : N ≤ N') : Coll B N' ds W := by
  obtain ⟨Ds, e, h1, h2⟩ := h
  exact ⟨Ds, e, h1, fun D hD => ⟨(h2 D hD).1, by have := (h2 D hD).2.1; omega, (h2 D hD).2.2⟩⟩
theorem Coll.keep {B N : Nat} {ds : List Deferred} {W W' : World} (h : Coll B N ds W) (hk : ∀ (k : Nat) (o : Obj), k < N → B ≤ k → W.heap[k]? = some o → o.isCells = false → W'.heap[k]? = some o) : Coll B N ds W' := by
  obtain ⟨Ds, e, h1, h2⟩ := h
  exact ⟨Ds, e, h1, fun D hD => ⟨(h2 D hD).1, (h2 D hD).2.1, hk D _ (h2 D hD).2.1 (h2 D hD).1 (h2 D hD).2.2 rfl⟩⟩
theorem Coll.below {B N N' : Nat} {ds : List Deferred} {W W' : World} (h : Coll B N ds W) (hb : Below N' W W') (hN : N ≤ N') : Coll B N ds W' := h.keep fun k o hk _ ho _ => (hb.block k (by omega)).trans ho
theorem Coll.others {B N : Nat} {ds : List Deferred} {W W' : World} (h : Coll B N ds W) (hb : KeepsOthers W W') : Coll B N ds W' := h.keep fun k o _ _ ho hc => hb.same k o ho hc
theorem ownFrom_coll {β : Type} {B N B' : Nat} {ds : List Deferred} (hN : N ≤ B') : OwnFrom B' (fun (_ : β) W => Coll B N ds W) := fun s X Y row hs hg hrow =>
  hs.keep fun k o hk _ ho _ => (hg.block k (Array.getElem?_eq_some_iff.1 ho).1 (fun e => by have := (hrow k e.symm).1; omega)).trans ho

/-- at the return all marks are taken, one after another -/
theorem leaves_coll {F : Fence} {n : Nat} {P : Program} {fn : Func} {tmps : Array Value} {R : Ending → World → Prop} {v : Value} {B N : Nat} (hres : ∀ W, (results fn tmps).run P W = .ok v W) :
    ∀ (Ds : List Nat) (W : World), Ds.Nodup → (∀ D, D ∈ Ds → B ≤ D ∧ D < N ∧ W.heap[D]? = some (.deferred (some []))) → (∀ W', ShutB B W W' → R (.returned v) W') → LeavesInM F n P fn tmps R (Ds.map mark) .returning W
  | [], W, _, _, hR => ⟨v, hres W, hR W (ShutB.refl _ _)⟩
  | D :: Ds, W, hn, hD, hR => by
    obtain ⟨h1, _, h3⟩ := hD D (by simp)
    refine ⟨by simp, .inl ⟨D, _, rfl, run_takeDeferred h3, ?_⟩⟩
    have hn' := List.nodup_cons.1 hn
    refine leaves_coll (B := B) (N := N) hres Ds _ hn'.2 (fun E hE => ?_) (fun W' hS => hR W' (hS.put h1 h3))
    obtain ⟨a1, a2, a3⟩ := hD E (by simp [hE])
    exact ⟨a1, a2, (World.putObj_heap_other (fun e => hn'.1 (by rw [← e]; exact hE))).trans a3⟩

theorem Coll.leaves {F : Fence} {n : Nat} {P : Program} {fn : Func} {tmps : Array Value} {R : Ending → World → Prop} {v : Value} {B N : Nat} {ds : List Deferred} {W : World} (h : Coll B N ds W) (hres : ∀ W, (results fn tmps).run P W = .ok v W)
    (hR : ∀ W', ShutB B W W' → R (.returned v) W') : LeavesInM F n P fn tmps R ds .returning W := by
  obtain ⟨Ds, rfl, h1, h2⟩ := h
  exact leaves_coll hres Ds W h1 h2 hR

/-- a loop inside a fence; what the round must hand on stands behind a variable -/
theorem wpIn_loop_k {F : Fence} {n : Nat} {P : Program} {Q : Exit → Act → World → Prop} {a : Act} {w : World} {c : Code} (I : Act → World → Prop) (μ : Act → World → Nat) (h₀ : I a w)
    (round : ∀ a w, I a w → ∀ K : Act → World → Prop, (∀ a' w', I a' w' → μ a' w' < μ a w → K a' w') → c.wpIn F n P (Exit.then K Q) a w) : (Code.loop c).wpIn F n P Q a w :=
  wpIn_loop I μ h₀ fun a w h => round a w h _ fun _ _ x y => ⟨x, y⟩

end Go.Proofs.Ytdjlobppnhokoaa
