/- A range over an iterator that changes memory of its own (a captured variable); a round's variables may be laid in boxes. No program is named here. -/
import Derived.Test.YtidlloelinmnnaaM3
namespace Go.Proofs.Ytidlloelinmnnaa
open Go Go.RowKit
set_option linter.unusedVariables false

/-- an iterator at rest: T: what it does by itself between two rounds -/
def SeqB {α : Type} (F : Fence) (n : Nat) (P : Program) (gf : Nat) (lb : Array Value) (encs : α → Array Value) (Kq T : World → World → Prop) (S Sp : List α → Prop) (w : World) : Prop :=
  ∀ (l : Nat) (J : List α → World → Prop) (W : World), Below w.heap.size w W → OwnFrom W.heap.size J → (∀ s X Y, J s X → T X Y → J s Y) →
    (∀ pre x W1, J pre W1 → Sp (pre ++ [x]) → YieldAt F (n - 1) P l (encs x) W1 fun e W' => e = .returned (.bool true) ∧ J (pre ++ [x]) W' ∧ Kq W1 W') →
    J [] W → CallsIn F n P gf (#[.func (.yield l) #[] #[]] ++ lb) W fun e W' => (∃ v, e = .returned v) ∧ ∃ xs, S xs ∧ J xs W'

theorem below_put' (W : World) (l : Nat) (o : Obj) : W.heap.size ≤ (W.putObj l o).heap.size := by rw [World.putObj_size]; exact Nat.le_refl _

theorem wpIn_seqB {F : Fence} {n : Nat} {P : Program} {α : Type} {g : Operand} {ps : Array Tmp} {assign body : Code} {Q : Exit → Act → World → Prop} {a : Act} {w w0 : World} {gf : Nat} {lb : Array Value} {encs : α → Array Value}
    {Kq T : World → World → Prop} {S Sp : List α → Prop} (hseq : SeqB F (n - 1) P gf lb encs Kq T S Sp w0)
    (hro : F.round = none) (h1 : 1 ≤ n) (hg : a.eval g = .func (.func gf) #[] lb) (hFg : F.fn gf) (eg : ∀ args w, (callFunc gf args).run P w = .ok (.enter gf args) w)
    (hKt : ∀ {A B C : World}, Kq A B → Kq B C → Kq A C) (hKb : ∀ (W : World) (l : Nat) (o o' : Obj), w.heap.size ≤ l → W.heap[l]? = some o → o.isCells = false → Kq W (W.putObj l o')) (hKg : ∀ (X Y : World), w.heap.size ≤ X.heap.size → X.grownBy Y none → Kq X Y)
    (hTo : ∀ (X Y : World), T X Y → ∀ (k : Nat) (o : Obj), X.heap[k]? = some o → o.isCells = false → Y.heap[k]? = some o)
    (hb0 : Below w0.heap.size w0 w) (hps : ∀ x, (encs x).size = ps.size)
    (I : List α → World → Prop) (hI : OwnFrom w.heap.size I) (hIT : ∀ s X Y, I s X → T X Y → I s Y) (h0 : I [] w) (a₁ : α → World → Act) (A : α → World → World → Prop)
    (hA : ∀ (x : α) (W0 W1 : World) (l : Nat) (o o' : Obj), W1.heap[l]? = some o → o.isCells = false → A x W0 W1 → A x W0 (W1.putObj l o'))
    (hassign : ∀ (l : Nat) (x : α) (W : World) (K : Act → World → Prop), (∀ W1, W.grownBy W1 none → A x W W1 → K (a₁ x W) W1) →
      assign.wpIn (F.inRound l) (n - 1 - 1) P (Exit.then K (fun _ _ _ => False)) { tmps := (ps.zip (encs x)).foldl (fun t (p, v) => t.setIfInBounds p v) a.tmps, defers := [] } W)
    (hbody : ∀ (l : Nat) (pre : List α) (x : α) (W0 W : World), I pre W → A x W0 W → w.heap.size + 2 ≤ W0.heap.size → W0.heap.size ≤ W.heap.size → Sp (pre ++ [x]) → body.wpIn (F.inRound l) (n - 1 - 1) P (calmPost Kq I (pre ++ [x]) W) (a₁ x W0) W)
    (hdone : ∀ (D : Nat) (xs : List α) (W : World), w.heap.size ≤ D → S xs → I xs W → W.heap[D]? = some (.deferred (some [])) → Q .normal { a with defers := mark D :: a.defers } W) :
    (Code.rangeFunc g ps assign body).wpIn F n P Q a w := by
  refine wpIn_rangeFunc fun fn hfn => ?_
  have key : ∃ rec : LoopState → Loop, rec = fun st => { state := st, pending := none, fn := fn, tmps := a.tmps, params := ps, assign := assign, body := body, defers := w.heap.size } := ⟨_, rfl⟩
  obtain ⟨rec, hrec⟩ := key
  have hst : ∀ st, (rec st).state = st := fun st => by rw [hrec]
  have hwith : ∀ st st', { rec st with state := st' } = rec st' := fun st st' => by rw [hrec]
  have hpend : ∀ st, (rec st).pending = none := fun st => by rw [hrec]
  obtain ⟨b, hb⟩ : ∃ b, b = w.heap.size := ⟨_, rfl⟩
  have hsz : ((w.alloc (.deferred (some []))).alloc (.loop (rec .ready))).heap.size = b + 2 := by rw [hb]; simp
  have hl0 : ((w.alloc (.deferred (some []))).alloc (.loop (rec .ready))).heap[b + 1]? = some (.loop (rec .ready)) := by
    have := World.alloc_heap_new (w.alloc (.deferred (some []))) (.loop (rec .ready))
    rw [World.size_alloc, ← hb] at this
    exact this
  have hd0 : ((w.alloc (.deferred (some []))).alloc (.loop (rec .ready))).heap[b]? = some (.deferred (some [])) := by
    rw [Below.heap_alloc _ _ _ (by rw [hb]; simp), hb]
    exact World.alloc_heap_new w _
  have hi0 : I [] ((w.alloc (.deferred (some []))).alloc (.loop (rec .ready))) := hI.alloc _ (hI.alloc _ h0)
  have hbe : Below w0.heap.size w0 ((w.alloc (.deferred (some []))).alloc (.loop (rec .ready))) :=
    hb0.trans ((((Below.refl _ w).alloc (Nat.le_refl _) _).alloc (by simp) _).mono hb0.size)
  refine ⟨b + 1, [mark b], (w.alloc (.deferred (some []))).alloc (.loop (rec .ready)), { target := .fn (.func gf) lb, args := #[.func (.yield (b + 1)) #[] #[]] }, (w.alloc (.deferred (some []))).alloc (.loop (rec .ready)), gf, #[.func (.yield (b + 1)) #[] #[]] ++ lb, (w.alloc (.deferred (some []))).alloc (.loop (rec .ready)), ?_, ?_, ?_, ?_, fun _ => h1, ?_⟩
  · rw [hro, hb, hrec]
    exact run_enterLoop_outer _ _ _ _ _
  · simp only [resolve, hg]
    simp [go_sem]
  · intro f' hf'
    simp [Target.leads] at hf'
    subst hf'
    exact hFg
  · simp [invoke, go_sem, eg]
  refine (hseq (b + 1) (fun pre W => ((I pre W ∧ W.heap[b + 1]? = some (.loop (rec .ready))) ∧ W.heap[b]? = some (.deferred (some []))) ∧ b + 2 ≤ W.heap.size) _ hbe
    (OwnFrom.and (OwnFrom.and (OwnFrom.and (ownFrom_up hI (by omega)) (own_block (by omega))) (own_block (by omega))) (fun s X Y row hs hg hrow => Nat.le_trans hs hg.size))
    (fun s X Y hs hT => ⟨⟨⟨hIT _ _ _ hs.1.1.1 hT, hTo _ _ hT _ _ hs.1.1.2 rfl⟩, hTo _ _ hT _ _ hs.1.2 rfl⟩, by
      have h2 := (Array.getElem?_eq_some_iff.1 (hTo _ _ hT _ _ hs.1.1.2 rfl)).1
      omega⟩) ?_ ⟨⟨⟨hi0, hl0⟩, hd0⟩, by rw [hsz]; exact Nat.le_refl _⟩).mono ?_
  · rintro pre x W0 ⟨⟨⟨hi, hl⟩, hd⟩, hs0⟩ hlen
    have hlt0 := (Array.getElem?_eq_some_iff.1 hl).1
    have hy := run_yield (P := P) (args := encs x) hl (by rw [hrec]; exact hps x)
    rw [hrec] at hy
    refine ⟨fn, _, assign, body, hy, roundIn_of_wpIn hfn (hassign (b + 1) x W0 _ fun W hgW hAW => ?_)⟩
    have hl1 := (hgW.block _ hlt0 (by simp)).trans hl
    have hd1 := (hgW.block _ (by omega) (by simp)).trans hd
    have hlt := (Array.getElem?_eq_some_iff.1 hl1).1
    have hbg := run_beginRound (P := P) hl1 (hst .ready)
    rw [hwith] at hbg
    have hl2 : (W.putObj (b + 1) (.loop (rec .busy))).heap[b + 1]? = some (.loop (rec .busy)) := World.putObj_heap_same hlt
    have hd2 : (W.putObj (b + 1) (.loop (rec .busy))).heap[b]? = some (.deferred (some [])) := (World.putObj_heap_other (by omega)).trans hd1
    have hi1 : I pre W := hI _ _ _ none hi hgW (fun r e => by cases e)
    have hw := hbody (b + 1) pre x W0 _ (hI.putObj (.loop (rec .busy)) hi1 (by omega) hl1 rfl) (hA x W0 W (b + 1) _ _ hl1 rfl hAW) (by omega) (Nat.le_trans hgW.size (below_put' W (b + 1) (.loop (rec .busy)))) hlen
    have hk1 := hKt (hKg _ _ (by omega) hgW) (hKb W (b + 1) _ (.loop (rec .busy)) (by omega) hl1 rfl)
    refine ⟨_, hbg, wpIn_mono hw ?_⟩
    rintro e a3 W3 hp
    cases e with
    | normal =>
      obtain ⟨p1, p2, p3⟩ := hp
      have hl3 := p1.same _ _ hl2 rfl
      have hd3 := p1.same _ _ hd2 rfl
      have hend := run_endRound (P := P) none hl3
      have hrw : { rec .busy with state := if (none : Option Code).isNone then .ready else .done, pending := none } = rec .ready := by rw [hrec]; rfl
      rw [hrw] at hend
      have hz := (Array.getElem?_eq_some_iff.1 hl3).1
      refine ⟨_, _, hend, rfl, ⟨⟨⟨hI.putObj _ p3 (by omega) hl3 rfl, World.putObj_heap_same hz⟩, (World.putObj_heap_other (by omega)).trans hd3⟩, by rw [World.putObj_size]; omega⟩, ?_⟩
      exact hKt hk1 (hKt p2 (hKb _ _ _ _ (by omega) hl3 rfl))
    | ret => exact hp.elim
    | exit id => exact hp.elim
    | goto t => exact hp.elim
    | panic ch => exact hp.elim
    | outgrown => exact hp.elim
  · rintro e W2 ⟨⟨v, rfl⟩, xs, hS, ⟨⟨hi, hl⟩, hd⟩, _⟩
    have hend := run_endLoop (P := P) hl (by rw [hst]; simp)
    rw [hpend] at hend
    exact ⟨none, _, hend, hdone b xs _ (by omega) hS (hI.putObj _ hi (by omega) hl rfl) ((World.putObj_heap_other (by omega)).trans hd)⟩

end Go.Proofs.Ytidlloelinmnnaa
