/- A range over an iterator that ranges over another one itself and keeps memory of its own; the loop's body may leave the loop. No program is named here. -/
import Derived.Test.YtcfeckpbjdipeaaM3
import Derived.RangeFuncKeeps
namespace Go.Proofs.Ytcfeckpbjdipeaa
open Go Go.RowKit
set_option linter.unusedVariables false

/-- what holds of the blocks below B alone -/
def LowI {β : Type} (B : Nat) (I : β → World → Prop) : Prop := ∀ s W W', I s W → B ≤ W.heap.size → Below B W W' → I s W'
theorem LowI.and {β : Type} {B : Nat} {I J : β → World → Prop} (h : LowI B I) (k : LowI B J) : LowI B (fun s W => I s W ∧ J s W) := fun s W W' hs hl hb => ⟨h s W W' hs.1 hl hb, k s W W' hs.2 hl hb⟩
theorem LowI.up {β : Type} {B B' : Nat} {I : β → World → Prop} (h : LowI B I) (hB : B ≤ B') : LowI B' I := fun s W W' hs hl hb => h s W W' hs (Nat.le_trans hB hl) (hb.mono hB)
theorem low_block {β : Type} {B b : Nat} {o : Obj} (hb : b < B) : LowI B (fun (_ : β) W => W.heap[b]? = some o) := fun s W W' hs _ h => (h.block b hb).trans hs
theorem low_below {β : Type} {B B' : Nat} {W0 : World} (hB : B ≤ B') : LowI B' (fun (_ : β) W => Below B W0 W) := fun s W W' hs _ h => hs.trans (h.mono hB)
theorem low_ex {β γ : Type} {B : Nat} {I : γ → β → World → Prop} (h : ∀ c, LowI B (I c)) : LowI B (fun s W => ∃ c, I c s W) := fun s W W' hs hl hb => by
  obtain ⟨c, hc⟩ := hs
  exact ⟨c, h c s W W' hc hl hb⟩
theorem below_put {B : Nat} (W : World) (l : Nat) (o' : Obj) (hl : B ≤ l) : Below B W (W.putObj l o') := by
  have hg := grownBy_putObj' W l o'
  exact ⟨hg.os, hg.tape, hg.output, hg.size, fun k hk => World.putObj_heap_other (by omega)⟩

/-- what is no row of cells, from B on, stays -/
structure KeepsHi (B : Nat) (W W' : World) : Prop where
  size : W.heap.size ≤ W'.heap.size
  same : ∀ (k : Nat) (o : Obj), B ≤ k → W.heap[k]? = some o → o.isCells = false → W'.heap[k]? = some o

/-- an iterator at rest, for consumers that may stop it -/
def StopSeq {α : Type} (F : Fence) (n : Nat) (P : Program) (gf : Nat) (lb : Array Value) (encs : α → Array Value) (Kq : Nat → World → World → Prop) (S Sp : List α → Prop) (N : Nat) (w : World) : Prop :=
  ∀ (l : Nat) (J Jx : List α → World → Prop) (W : World), Below w.heap.size w W → LowI W.heap.size J → LowI W.heap.size Jx →
    (∀ pre x W1, J pre W1 → pre.length < N → YieldAt F (n - 1) P l (encs x) W1 fun e W' => (e = .returned (.bool true) ∧ J (pre ++ [x]) W' ∧ Kq W.heap.size W1 W') ∨ (e = .returned (.bool false) ∧ Jx (pre ++ [x]) W' ∧ KeepsHi W.heap.size W1 W')) →
    J [] W → CallsIn F n P gf (#[.func (.yield l) #[] #[]] ++ lb) W fun e W' => (∃ v, e = .returned v) ∧ ((∃ xs, S xs ∧ J xs W') ∨ ∃ pre, Sp pre ∧ Jx pre W')

theorem wpIn_stop {F : Fence} {n : Nat} {P : Program} {α : Type} {g : Operand} {ps : Array Tmp} {assign body : Code} {Q : Exit → Act → World → Prop} {a : Act} {w w0 : World} {gf : Nat} {lb : Array Value} {encs : α → Array Value}
    {Kq : Nat → World → World → Prop} {S Sp : List α → Prop} {N : Nat} (hseq : StopSeq F (n - 1) P gf lb encs Kq S Sp N w0)
    (hro : F.round = none) (h1 : 1 ≤ n) (hg : a.eval g = .func (.func gf) #[] lb) (hFg : F.fn gf) (eg : ∀ args w, (callFunc gf args).run P w = .ok (.enter gf args) w)
    (hKt : ∀ {s : Nat} {A B C : World}, Kq s A B → Kq s B C → Kq s A C) (hKb : ∀ (s : Nat) (W : World) (l : Nat) (o' : Obj), w.heap.size ≤ l → l < s → Kq s W (W.putObj l o'))
    (hb0 : Below w0.heap.size w0 w) (hps : ∀ x, (encs x).size = ps.size)
    (I : List α → World → Prop) (Ix : Code → List α → World → Prop) (hI : LowI w.heap.size I) (hIx : ∀ c, LowI w.heap.size (Ix c)) (h0 : I [] w) (a₁ : α → World → Act) (A : α → World → World → Prop)
    (hA : ∀ (x : α) (W0 W1 : World) (l : Nat) (o' : Obj), w.heap.size ≤ l → l < w.heap.size + 2 → w.heap.size + 2 ≤ W0.heap.size → A x W0 W1 → A x W0 (W1.putObj l o')) (hKbel : ∀ (s : Nat) (W W' : World), Below W.heap.size W W' → Kq s W W')
    (hassign : ∀ (l : Nat) (x : α) (W : World) (K : Act → World → Prop), (∀ W1, Below W.heap.size W W1 → A x W W1 → K (a₁ x W) W1) →
      assign.wpIn (F.inRound l) (n - 1 - 1) P (Exit.then K (fun _ _ _ => False)) { tmps := (ps.zip (encs x)).foldl (fun t (p, v) => t.setIfInBounds p v) a.tmps, defers := [] } W)
    (hbody : ∀ (l : Nat) (pre : List α) (x : α) (W0 W : World), I pre W → A x W0 W → w.heap.size + 2 ≤ W0.heap.size → W0.heap.size ≤ W.heap.size → pre.length < N → body.wpIn (F.inRound l) (n - 1 - 1) P (ownPostK (Kq (w.heap.size + 2)) I Ix (pre ++ [x]) W) (a₁ x W0) W)
    (hdone : ∀ (D : Nat) (xs : List α) (W : World), w.heap.size ≤ D → S xs → I xs W → W.heap[D]? = some (.deferred (some [])) → Q .normal { a with defers := mark D :: a.defers } W)
    (hstop : ∀ (D : Nat) (c : Code) (pre : List α) (W : World), w.heap.size ≤ D → Sp pre → Ix c pre W → W.heap[D]? = some (.deferred (some [])) → c.wpIn F n P Q { a with defers := mark D :: a.defers } W) :
    (Code.rangeFunc g ps assign body).wpIn F n P Q a w := by
  refine wpIn_rangeFunc fun fn hfn => ?_
  have key : ∃ rec : LoopState → Option Code → Loop, rec = fun st pe => { state := st, pending := pe, fn := fn, tmps := a.tmps, params := ps, assign := assign, body := body, defers := w.heap.size } := ⟨_, rfl⟩
  obtain ⟨rec, hrec⟩ := key
  have hst : ∀ st pe, (rec st pe).state = st := fun st pe => by rw [hrec]
  have hwith : ∀ st pe st' pe', { rec st pe with state := st', pending := pe' } = rec st' pe' := fun st pe st' pe' => by rw [hrec]
  have hpend : ∀ st pe, (rec st pe).pending = pe := fun st pe => by rw [hrec]
  obtain ⟨b, hb⟩ : ∃ b, b = w.heap.size := ⟨_, rfl⟩
  have hsz : ((w.alloc (.deferred (some []))).alloc (.loop (rec .ready none))).heap.size = b + 2 := by rw [hb]; simp
  have hl0 : ((w.alloc (.deferred (some []))).alloc (.loop (rec .ready none))).heap[b + 1]? = some (.loop (rec .ready none)) := by
    have := World.alloc_heap_new (w.alloc (.deferred (some []))) (.loop (rec .ready none))
    rw [World.size_alloc, ← hb] at this
    exact this
  have hd0 : ((w.alloc (.deferred (some []))).alloc (.loop (rec .ready none))).heap[b]? = some (.deferred (some [])) := by
    rw [Below.heap_alloc _ _ _ (by rw [hb]; simp), hb]
    exact World.alloc_heap_new w _
  have hi0 : I [] ((w.alloc (.deferred (some []))).alloc (.loop (rec .ready none))) := hI _ _ _ h0 (Nat.le_refl _) (((Below.refl _ w).alloc (Nat.le_refl _) _).alloc (by simp) _)
  have hbe : Below w0.heap.size w0 ((w.alloc (.deferred (some []))).alloc (.loop (rec .ready none))) :=
    hb0.trans ((((Below.refl _ w).alloc (Nat.le_refl _) _).alloc (by simp) _).mono hb0.size)
  refine ⟨b + 1, [mark b], (w.alloc (.deferred (some []))).alloc (.loop (rec .ready none)), { target := .fn (.func gf) lb, args := #[.func (.yield (b + 1)) #[] #[]] }, (w.alloc (.deferred (some []))).alloc (.loop (rec .ready none)), gf, #[.func (.yield (b + 1)) #[] #[]] ++ lb, (w.alloc (.deferred (some []))).alloc (.loop (rec .ready none)), ?_, ?_, ?_, ?_, fun _ => h1, ?_⟩
  · rw [hro, hb, hrec]
    exact run_enterLoop_outer _ _ _ _ _
  · simp only [resolve, hg]
    simp [go_sem]
  · intro f' hf'
    simp [Target.leads] at hf'
    subst hf'
    exact hFg
  · simp [invoke, go_sem, eg]
  refine (hseq (b + 1) (fun pre W => (I pre W ∧ W.heap[b + 1]? = some (.loop (rec .ready none))) ∧ W.heap[b]? = some (.deferred (some [])))
    (fun pre W => ∃ c, (Ix c pre W ∧ W.heap[b + 1]? = some (.loop (rec .done (some c)))) ∧ W.heap[b]? = some (.deferred (some []))) _ hbe
    (LowI.and (LowI.and (hI.up (by omega)) (low_block (by omega))) (low_block (by omega)))
    (low_ex fun c => LowI.and (LowI.and ((hIx c).up (by omega)) (low_block (by omega))) (low_block (by omega))) ?_ ⟨⟨hi0, hl0⟩, hd0⟩).mono ?_
  · rintro pre x W0 ⟨⟨hi, hl⟩, hd⟩ hlen
    have hlt0 := (Array.getElem?_eq_some_iff.1 hl).1
    have hy := run_yield (P := P) (args := encs x) hl (by rw [hrec]; exact hps x)
    rw [hrec] at hy
    refine ⟨fn, _, assign, body, hy, roundIn_of_wpIn hfn (hassign (b + 1) x W0 _ fun W hbW hAW => ?_)⟩
    have hl1 := (hbW.block _ hlt0).trans hl
    have hd1 := (hbW.block _ (by omega)).trans hd
    have hlt := (Array.getElem?_eq_some_iff.1 hl1).1
    have hbg := run_beginRound (P := P) hl1 (hst .ready none)
    have hw1 : { rec .ready none with state := .busy } = rec .busy none := by rw [hrec]
    rw [hw1] at hbg
    have hl2 : (W.putObj (b + 1) (.loop (rec .busy none))).heap[b + 1]? = some (.loop (rec .busy none)) := World.putObj_heap_same hlt
    have hd2 : (W.putObj (b + 1) (.loop (rec .busy none))).heap[b]? = some (.deferred (some [])) := (World.putObj_heap_other (by omega)).trans hd1
    have hi1 := hI _ _ _ hi (by omega) (hbW.mono (by omega))
    have hw := hbody (b + 1) pre x W0 _ (hI _ _ _ hi1 (by omega) (below_put W (b + 1) (.loop (rec .busy none)) (by omega))) (hA x W0 W (b + 1) (.loop (rec .busy none)) (by omega) (by omega) (by omega) hAW) (by omega) (Nat.le_trans hbW.size (below_put (B := 0) W (b + 1) (.loop (rec .busy none)) (Nat.zero_le _)).size) hlen
    have hk1 := hKt (hKbel (w.heap.size + 2) _ _ hbW) (hKb (w.heap.size + 2) W (b + 1) (.loop (rec .busy none)) (by omega) (by omega))
    refine ⟨_, hbg, wpIn_mono hw ?_⟩
    have ends : ∀ (jump : Option Code) (W3 : World), KeepsOthers (W.putObj (b + 1) (.loop (rec .busy none))) W3 → ∀ st, st = (if jump.isNone then LoopState.ready else .done) →
        (Instr.endRound (b + 1) jump).run P W3 = .ok (.bool jump.isNone) (W3.putObj (b + 1) (.loop (rec st jump))) ∧ (W3.putObj (b + 1) (.loop (rec st jump))).heap[b + 1]? = some (.loop (rec st jump)) ∧ (W3.putObj (b + 1) (.loop (rec st jump))).heap[b]? = some (.deferred (some [])) ∧ W3.heap[b + 1]? = some (.loop (rec .busy none)) ∧ KeepsHi (b + 2) W0 (W3.putObj (b + 1) (.loop (rec st jump))) := by
      intro jump W3 p1 st hs
      have hl3 := p1.same _ _ hl2 rfl
      have hd3 := p1.same _ _ hd2 rfl
      have hend := run_endRound (P := P) jump hl3
      rw [← hs, hwith] at hend
      exact ⟨hend, World.putObj_heap_same (Array.getElem?_eq_some_iff.1 hl3).1, (World.putObj_heap_other (by omega)).trans hd3, hl3, ⟨Nat.le_trans (Nat.le_trans hbW.size (below_put (B := 0) W (b + 1) (.loop (rec .busy none)) (Nat.zero_le _)).size) (Nat.le_trans p1.size (below_put (B := 0) W3 (b + 1) (.loop (rec st jump)) (Nat.zero_le _)).size), fun k o hk ho hc => (World.putObj_heap_other (by omega)).trans (p1.same k o ((World.putObj_heap_other (by omega)).trans ((hbW.block k (Array.getElem?_eq_some_iff.1 ho).1).trans ho)) hc)⟩⟩
    rintro e a3 W3 hp
    cases e with
    | normal =>
      obtain ⟨p1, p2, p3⟩ := hp
      obtain ⟨hend, q1, q2, q3, _⟩ := ends none W3 p1 .ready rfl
      refine ⟨_, _, hend, .inl ⟨rfl, ⟨⟨hI _ _ _ p3 (by have := (Array.getElem?_eq_some_iff.1 q3).1; omega) (below_put _ _ _ (by omega)), q1⟩, q2⟩, ?_⟩⟩
      rw [hsz, hb]
      exact hKt hk1 (hKt p2 (hKb _ _ _ _ (by omega) (by omega)))
    | ret =>
      obtain ⟨p1, p3⟩ := hp
      obtain ⟨hend, q1, q2, q3, q4⟩ := ends (some .ret) W3 p1 .done rfl
      exact ⟨_, _, hend, .inr ⟨rfl, ⟨.ret, ⟨hIx _ _ _ _ p3 (by have := (Array.getElem?_eq_some_iff.1 q3).1; omega) (below_put _ _ _ (by omega)), q1⟩, q2⟩, by rw [hsz]; exact q4⟩⟩
    | exit id =>
      obtain ⟨p1, p3⟩ := hp
      obtain ⟨hend, q1, q2, q3, q4⟩ := ends (some (.exit id)) W3 p1 .done rfl
      exact ⟨_, _, hend, .inr ⟨rfl, ⟨.exit id, ⟨hIx _ _ _ _ p3 (by have := (Array.getElem?_eq_some_iff.1 q3).1; omega) (below_put _ _ _ (by omega)), q1⟩, q2⟩, by rw [hsz]; exact q4⟩⟩
    | goto t =>
      obtain ⟨p1, p3⟩ := hp
      obtain ⟨hend, q1, q2, q3, q4⟩ := ends (some (.goto t)) W3 p1 .done rfl
      exact ⟨_, _, hend, .inr ⟨rfl, ⟨.goto t, ⟨hIx _ _ _ _ p3 (by have := (Array.getElem?_eq_some_iff.1 q3).1; omega) (below_put _ _ _ (by omega)), q1⟩, q2⟩, by rw [hsz]; exact q4⟩⟩
    | panic ch => exact hp.elim
    | outgrown => exact hp.elim
  · rintro e W2 ⟨⟨v, rfl⟩, ⟨xs, hS, ⟨hi, hl⟩, hd⟩ | ⟨pre, hS, c, ⟨hi, hl⟩, hd⟩⟩
    · have hend := run_endLoop (P := P) hl (by rw [hst]; simp)
      rw [hpend] at hend
      exact ⟨none, _, hend, hdone b xs _ (by omega) hS (hI _ _ _ hi (by have := (Array.getElem?_eq_some_iff.1 hl).1; omega) (below_put _ _ _ (by omega))) ((World.putObj_heap_other (by omega)).trans hd)⟩
    · have hend := run_endLoop (P := P) hl (by rw [hst]; simp)
      rw [hpend] at hend
      exact ⟨some c, _, hend, hstop b c pre _ (by omega) hS (hIx c _ _ _ hi (by have := (Array.getElem?_eq_some_iff.1 hl).1; omega) (below_put _ _ _ (by omega))) ((World.putObj_heap_other (by omega)).trans hd)⟩

end Go.Proofs.Ytcfeckpbjdipeaa
