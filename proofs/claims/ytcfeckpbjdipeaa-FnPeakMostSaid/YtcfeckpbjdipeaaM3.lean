/- Several texts of this family in one. -/
import Derived.Test.YtcfeckpbjdipeaaM1
import Derived.Sort.QuietIn
import Derived.RangeFuncCalls
import Derived.TacticsInMore
import Derived.RangeFuncLeaves
import Derived.RangeFuncRecord
import Derived.RangeFuncFrom
import Derived.RangeFuncNested

/- Neighbors of a cell, by index: what is reckoned. -/
namespace Go.Proofs.Ytcfeckpbjdipeaa
set_option linter.unusedVariables false

/-- an index below M -/
abbrev Ix (M : Nat) := {x : Nat // x < M}

theorem east_lt {R C i : Nat} (h : i < R * C) (h2 : i % C + 1 < C) : i + 1 < R * C := by
  have h0 : 0 < C := by omega
  have e := Nat.div_add_mod i C
  have d : i / C < R := (Nat.div_lt_iff_lt_mul h0).2 h
  have m : (i / C + 1) * C ≤ R * C := Nat.mul_le_mul_right C d
  rw [Nat.add_mul, Nat.one_mul, Nat.mul_comm] at m
  omega

/-- the k-th neighbor, if it is there: north, east, south, west -/
def nb (R C : Nat) (i : Ix (R * C)) (k : Nat) : Option (Ix (R * C)) :=
  if k = 0 then (if C ≤ i.1 then some ⟨i.1 - C, by have := i.2; omega⟩ else none)
  else if k = 1 then (if h : i.1 % C + 1 < C then some ⟨i.1 + 1, east_lt i.2 h⟩ else none)
  else if k = 2 then (if h : i.1 + C < R * C then some ⟨i.1 + C, h⟩ else none)
  else (if 0 < i.1 % C then some ⟨i.1 - 1, by have := i.2; omega⟩ else none)

def near (R C : Nat) (i : Ix (R * C)) (k : Nat) : List (Ix (R * C)) := (List.range k).filterMap (nb R C i)

theorem near_succ (R C : Nat) (i : Ix (R * C)) (k : Nat) : near R C i (k + 1) = near R C i k ++ (nb R C i k).toList := by
  unfold near
  rw [List.range_succ, List.filterMap_append]
  cases h : nb R C i k <;> simp [h]

theorem near_some {R C : Nat} {i : Ix (R * C)} {k : Nat} {x : Ix (R * C)} (h : nb R C i k = some x) : near R C i (k + 1) = near R C i k ++ [x] := by rw [near_succ, h]; rfl
theorem near_none {R C : Nat} {i : Ix (R * C)} {k : Nat} (h : nb R C i k = none) : near R C i (k + 1) = near R C i k := by rw [near_succ, h]; simp

theorem near_len (R C : Nat) (i : Ix (R * C)) : ∀ k, (near R C i k).length ≤ k
  | 0 => by simp [near]
  | k + 1 => by
    rw [near_succ, List.length_append]
    have := near_len R C i k
    cases nb R C i k <;> simp <;> omega

theorem near_pre (R C : Nat) (i : Ix (R * C)) (k j : Nat) (h : k ≤ j) : near R C i k <+: near R C i j := by
  induction j with
  | zero => have : k = 0 := by omega
            subst this; exact List.prefix_refl _
  | succ j ih =>
    by_cases e : k = j + 1
    · subst e; exact List.prefix_refl _
    · rw [near_succ]; exact (ih (by omega)).trans (List.prefix_append _ _)

def dy (k : Nat) : Int := if k = 0 then -1 else if k = 2 then 1 else 0
def dx (k : Nat) : Int := if k = 1 then 1 else if k = 3 then -1 else 0
theorem dy_range (k : Nat) : -1 ≤ dy k ∧ dy k ≤ 1 := by unfold dy; repeat' split
                                                        all_goals omega
theorem dx_range (k : Nat) : -1 ≤ dx k ∧ dx k ≤ 1 := by unfold dx; repeat' split
                                                        all_goals omega

theorem nb_at (R C : Nat) (i : Ix (R * C)) (k r c : Nat) (hk : k < 4) (hc : c < C) (hr : r < R) (e : C * r + c = i.1) (em : i.1 % C = c) (y x : Int) (hy : y = r + dy k) (hx : x = c + dx k) :
    (∃ z, nb R C i k = some z ∧ 0 ≤ y ∧ y < R ∧ 0 ≤ x ∧ x < C ∧ y * C + x = (z.1 : Int)) ∨ (nb R C i k = none ∧ ¬ (0 ≤ y ∧ y < R ∧ 0 ≤ x ∧ x < C)) := by
  have hcase : k = 0 ∨ k = 1 ∨ k = 2 ∨ k = 3 := by omega
  have e1 : (r : Int) * (C : Int) + c = (i.1 : Int) := by rw [← e, Nat.mul_comm]; simp
  have ep : ((r : Int) + 1) * (C : Int) = (r : Int) * C + C := by rw [Int.add_mul, Int.one_mul]
  have en : ((r : Int) - 1) * (C : Int) = (r : Int) * C - C := by rw [Int.sub_mul, Int.one_mul]
  rcases hcase with rfl | rfl | rfl | rfl
  · simp only [dy, dx, if_true] at hy hx
    by_cases h : 1 ≤ r
    · have h2 : C ≤ i.1 := by
        have := Nat.mul_le_mul_left C h
        omega
      refine Or.inl ⟨⟨i.1 - C, by have := i.2; omega⟩, by simp [nb, h2], by omega, by omega, by omega, by omega, ?_⟩
      have : y = (r : Int) - 1 := by omega
      rw [this, en]; simp only; omega
    · have h2 : ¬ C ≤ i.1 := by
        have : r = 0 := by omega
        subst this
        omega
      exact Or.inr ⟨by simp [nb, h2], by omega⟩
  · simp [dy, dx] at hy hx
    by_cases h : c + 1 < C
    · refine Or.inl ⟨⟨i.1 + 1, east_lt i.2 (by omega)⟩, by simp [nb, em, h], by omega, by omega, by omega, by omega, ?_⟩
      have : y = (r : Int) := by omega
      rw [this]; simp only; omega
    · exact Or.inr ⟨by simp [nb, em, h], by omega⟩
  · simp [dy, dx] at hy hx
    by_cases h : r + 1 < R
    · have h2 : i.1 + C < R * C := by
        have m : (r + 1 + 1) * C ≤ R * C := Nat.mul_le_mul_right C h
        rw [Nat.add_mul, Nat.add_mul, Nat.one_mul, Nat.mul_comm] at m
        omega
      refine Or.inl ⟨⟨i.1 + C, h2⟩, by simp [nb, h2], by omega, by omega, by omega, by omega, ?_⟩
      have : y = (r : Int) + 1 := by omega
      rw [this, ep]; simp only; omega
    · have h2 : ¬ i.1 + C < R * C := by
        have m : R * C ≤ (r + 1) * C := Nat.mul_le_mul_right C (by omega)
        rw [Nat.add_mul, Nat.one_mul, Nat.mul_comm r] at m
        omega
      exact Or.inr ⟨by simp [nb, h2], by omega⟩
  · simp [dy, dx] at hy hx
    by_cases h : 0 < c
    · refine Or.inl ⟨⟨i.1 - 1, by have := i.2; omega⟩, by simp [nb, em, h], by omega, by omega, by omega, by omega, ?_⟩
      have : y = (r : Int) := by omega
      rw [this]; simp only; omega
    · exact Or.inr ⟨by simp [nb, em, h], by omega⟩

/-- the cell to which water flows, after the neighbors l -/
def flowTo {M : Nat} (Z : Nat → Int) (i : Ix M) (l : List (Ix M)) : Ix M := l.foldl (fun b n => if Z n.1 < Z b.1 then n else b) i
theorem flowTo_snoc {M : Nat} (Z : Nat → Int) (i : Ix M) (l : List (Ix M)) (x : Ix M) : flowTo Z i (l ++ [x]) = if Z x.1 < Z (flowTo Z i l).1 then x else flowTo Z i l := by unfold flowTo; rw [List.foldl_append]; rfl

def nxt (R C : Nat) (Z : Nat → Int) (i : Ix (R * C)) : Ix (R * C) := flowTo Z i (near R C i 4)

end Go.Proofs.Ytcfeckpbjdipeaa

/- Runs: what is reckoned. -/
namespace Go.Proofs.Ytcfeckpbjdipeaa
set_option linter.unusedVariables false

theorem flowTo_low {M : Nat} (Z : Nat → Int) (i : Ix M) : ∀ l : List (Ix M), flowTo Z i l = i ∨ Z (flowTo Z i l).1 < Z i.1 := by
  unfold flowTo
  intro l
  induction l generalizing i with
  | nil => exact Or.inl rfl
  | cons x l ih =>
    simp only [List.foldl_cons]
    by_cases h : Z x.1 < Z i.1
    · simp only [h, if_true]
      rcases ih x with e | e
      · rw [e]; exact Or.inr h
      · exact Or.inr (by omega)
    · simp only [h, if_false]
      exact ih i

theorem nxt_low (R C : Nat) (Z : Nat → Int) (i : Ix (R * C)) (h : nxt R C Z i ≠ i) : Z (nxt R C Z i).1 < Z i.1 := (flowTo_low Z i _).resolve_left h

def runN (R C : Nat) (Z : Nat → Int) : Nat → Ix (R * C) → List (Ix (R * C))
  | 0, i => [i]
  | f + 1, i => if nxt R C Z i = i then [i] else i :: runN R C Z f (nxt R C Z i)

/-- the run of a cell -/
inductive IsRun (R C : Nat) (Z : Nat → Int) : Ix (R * C) → List (Ix (R * C)) → Prop
  | sink {i : Ix (R * C)} : nxt R C Z i = i → IsRun R C Z i [i]
  | flow {i : Ix (R * C)} {l : List (Ix (R * C))} : nxt R C Z i ≠ i → IsRun R C Z (nxt R C Z i) l → IsRun R C Z i (i :: l)

theorem IsRun.cons {R C : Nat} {Z : Nat → Int} {i : Ix (R * C)} {l : List (Ix (R * C))} (h : IsRun R C Z i l) : (nxt R C Z i = i ∧ l = [i]) ∨ (nxt R C Z i ≠ i ∧ ∃ t, l = i :: t ∧ IsRun R C Z (nxt R C Z i) t) := by
  cases h with
  | sink h => exact Or.inl ⟨h, rfl⟩
  | flow h1 h2 => exact Or.inr ⟨h1, _, rfl, h2⟩

theorem runN_is (R C : Nat) (Z : Nat → Int) (h0 : ∀ x, x < R * C → 0 ≤ Z x) : ∀ (f : Nat) (i : Ix (R * C)), Z i.1 ≤ f → IsRun R C Z i (runN R C Z f i)
  | 0, i, h => by
    refine IsRun.sink ?_
    apply Classical.byContradiction
    intro e
    have := nxt_low R C Z i e
    have := h0 _ (nxt R C Z i).2
    simp at h
    omega
  | f + 1, i, h => by
    unfold runN
    by_cases e : nxt R C Z i = i
    · rw [if_pos e]; exact IsRun.sink e
    · rw [if_neg e]
      exact IsRun.flow e (runN_is R C Z h0 f _ (by have := nxt_low R C Z i e; simp at h; omega))

def runL (R C : Nat) (Z : Nat → Int) (i : Ix (R * C)) : List (Ix (R * C)) := runN R C Z 99 i
theorem runL_is {R C : Nat} {Z : Nat → Int} (hZ : ∀ x, x < R * C → 0 ≤ Z x ∧ Z x ≤ 99) (i : Ix (R * C)) : IsRun R C Z i (runL R C Z i) :=
  runN_is R C Z (fun x hx => (hZ x hx).1) 99 i (hZ _ i.2).2
theorem runN_len (R C : Nat) (Z : Nat → Int) : ∀ (f : Nat) (i : Ix (R * C)), (runN R C Z f i).length ≤ f + 1
  | 0, i => by simp [runN]
  | f + 1, i => by
    unfold runN
    split
    · simp
    · simp; exact runN_len R C Z f _
theorem runL_len (R C : Nat) (Z : Nat → Int) (i : Ix (R * C)) : (runL R C Z i).length ≤ 100 := runN_len R C Z 99 i

end Go.Proofs.Ytcfeckpbjdipeaa

/- The longest run: what is reckoned. -/
namespace Go.Proofs.Ytcfeckpbjdipeaa
set_option linter.unusedVariables false

def lenAt (R C : Nat) (Z : Nat → Int) (k : Nat) : Nat := if h : k < R * C then (runL R C Z ⟨k, h⟩).length else 0
theorem lenAt_eq {R C : Nat} {Z : Nat → Int} (i : Ix (R * C)) : lenAt R C Z i.1 = (runL R C Z i).length := by unfold lenAt; rw [dif_pos i.2]
def lgst (R C : Nat) (Z : Nat → Int) : Nat → Int
  | 0 => 0
  | k + 1 => max (lgst R C Z k) (lenAt R C Z k)
theorem lenAt_le (R C : Nat) (Z : Nat → Int) (k : Nat) : lenAt R C Z k ≤ 100 := by
  unfold lenAt
  split
  · exact runL_len R C Z _
  · omega
theorem lgst_ok (R C : Nat) (Z : Nat → Int) : ∀ k, 0 ≤ lgst R C Z k ∧ lgst R C Z k ≤ 100
  | 0 => by simp [lgst]
  | k + 1 => by
    have h1 := lgst_ok R C Z k
    have h2 := lenAt_le R C Z k
    simp only [lgst]; omega

end Go.Proofs.Ytcfeckpbjdipeaa

/- A region that only reads, in a round of a loop over an iterator: one walk serves every order there, too. No program is named here. -/
namespace Go.Proofs.Ytcfeckpbjdipeaa
open Go Go.RowKit
set_option linter.unusedVariables false

theorem oper_round {F : Fence} {n : Nat} {P : Program} {o : Oper} {a : Act} {w : World} {K : Act → World → Prop} {Q : Exit → Act → World → Prop} (l0 : Nat) (hro : F.round = none) (hnd : ∀ c, o.op ≠ .defer c) (h : o.wpIn F n P a w K Q) : o.wpIn (F.inRound l0) n P a w K Q := by
  unfold Oper.wpIn at *
  refine ⟨h.1, ?_⟩
  have e : (F.inRound l0).round = some l0 := rfl
  rw [e, Oper.semAt_some _ _ _ hnd]
  have h2 := h.2
  rw [hro, Oper.semAt_none] at h2
  exact h2

def noDefer (ops : List Oper) : Bool := ops.all fun o => match o.op with
  | .defer _ => false
  | _ => true

theorem noDefer_at {ops : Array Oper} (h : noDefer ops.toList = true) {i : Nat} {o : Oper} (ho : ops[i]? = some o) : ∀ c, o.op ≠ .defer c := by
  intro c e
  have hm : o ∈ ops.toList := by
    rw [← Array.getElem?_toList] at ho
    exact List.mem_of_getElem? ho
  have := List.all_eq_true.1 h o hm
  rw [e] at this
  cases this

theorem any_round {F : Fence} {n : Nat} {P : Program} {md : Region.Mode} {ops : Array Oper} {Q : Exit → Act → World → Prop} (l0 : Nat) (hro : F.round = none) (hnd : noDefer ops.toList = true) :
    ∀ (fuel : Nat) (listed : Array Bool) (a : Act) (w : World), wpAnyIn F n P md ops Q fuel listed a w → wpAnyIn (F.inRound l0) n P md ops Q fuel listed a w
  | 0, _, _, _, h => h
  | fuel + 1, listed, a, w, h => by
    refine ⟨h.1, fun i hi => ?_⟩
    have h2 := wpOpIn_mono (fun a w h => any_round l0 hro hnd fuel _ a w h) (h.2 i hi)
    unfold wpOpIn at *
    split
    · rename_i ho; simp only [ho] at h2; exact h2
    · rename_i o ho
      simp only [ho] at h2
      split
      · rename_i hw
        simp only [hw, if_true] at h2
        exact oper_round l0 hro (noDefer_at hnd ho) h2
      · rename_i hw
        simp only [hw] at h2
        exact h2

theorem quiet_round {F : Fence} {n : Nat} {P : Program} {id : Nat} {Q : Exit → Act → World → Prop} {a : Act} {w : World} {l : List Oper} (l0 : Nat) (hro : F.round = none) (hm : P.follows .mixedOrders = true) (hB : Region.lexB .any l.toArray = true) (hnd : noDefer l = true)
    (h : wpQuietIn F n P l.toArray (fun w' => ∃ n, w' = w.drewN n) (fun a' => ∀ w', (∃ n, w' = w.drewN n) → Q .normal a' w') l a) : (Code.region id l.toArray true).wpIn (F.inRound l0) n P Q a w := by
  simp only [Region.lexB, Bool.and_eq_true] at hB
  refine wpIn_region_any hm (any_round l0 hro (by simpa using hnd) _ _ _ _ (wpAnyIn_of_quiet (C := fun w' => ∃ n, w' = w.drewN n) (Q := fun a' => ∀ w', (∃ n, w' = w.drewN n) → Q .normal a' w') hro (fun _ w' hw' h => h w' hw') _ _ _ _ ⟨1, rfl⟩ ?_))
  have := wpAnyQIn_lex (F := F) (n := n) (C := fun w' => ∃ n, w' = w.drewN n) (md := .any) hB.1 l 0 (Array.replicate l.toArray.size false) a (by simp) (by simpa using hB.2) h
  simpa using this

end Go.Proofs.Ytcfeckpbjdipeaa

/- The marks that ranges over functions leave in a loop: many of them, taken at the return. No program is named here. -/
namespace Go.Proofs.Ytcfeckpbjdipeaa
open Go Go.RowKit
set_option linter.unusedVariables false

/-- nothing has turned but blocks that are no cells, from B on -/
structure ShutB (B : Nat) (W W' : World) : Prop where
  os : W'.os = W.os
  tape : W'.tape = W.tape
  output : W'.output = W.output
  size : W'.heap.size = W.heap.size
  low : ∀ k, k < B → W'.heap[k]? = W.heap[k]?
  cells : ∀ (k : Nat) (o : Obj), W.heap[k]? = some o → o.isCells = true → W'.heap[k]? = some o

theorem ShutB.refl (B : Nat) (W : World) : ShutB B W W := ⟨rfl, rfl, rfl, rfl, fun _ _ => rfl, fun _ _ h _ => h⟩
theorem ShutB.below {B : Nat} {W W' : World} (h : ShutB B W W') : Below B W W' := ⟨h.os, h.tape, h.output, by rw [h.size]; exact Nat.le_refl _, h.low⟩
theorem ShutB.put {B D : Nat} {W W' : World} {o : Obj} (h : ShutB B (W.putObj D o) W') (hB : B ≤ D) (hD : W.heap[D]? = some (.deferred (some []))) : ShutB B W W' :=
  ⟨h.os, h.tape, h.output, h.size.trans World.putObj_size, fun k hk => (h.low k hk).trans (World.putObj_heap_other (by omega)), fun k o' ho hc =>
    h.cells k o' ((World.putObj_heap_other (by intro e; subst e; rw [hD] at ho; cases ho; cases hc)).trans ho) hc⟩
theorem ShutB.row {B b : Nat} {W W' : World} {t : TypeId} {n : Nat} {f : Nat → Value} (h : ShutB B W W') (hr : W.rowIs b t n f) : W'.rowIs b t n f := by
  obtain ⟨cs, h1, h2⟩ := hr
  exact ⟨cs, h.cells _ _ h1 rfl, h2⟩

abbrev mark (D : Nat) : Deferred := { target := .collected D, args := #[] }

/-- the marks ds: each its own block from B on, below N, open -/
def Coll (B N : Nat) (ds : List Deferred) (W : World) : Prop :=
  ∃ Ds : List Nat, ds = Ds.map mark ∧ Ds.Nodup ∧ ∀ D, D ∈ Ds → B ≤ D ∧ D < N ∧ W.heap[D]? = some (.deferred (some []))

theorem Coll.nil {B N : Nat} {W : World} : Coll B N [] W := ⟨[], rfl, List.nodup_nil, fun _ h => by cases h⟩
theorem Coll.cons {B N D : Nat} {ds : List Deferred} {W : World} (h : Coll B N ds W) (hB : B ≤ D) (hN : N ≤ D) (hD : W.heap[D]? = some (.deferred (some []))) : Coll B (D + 1) (mark D :: ds) W := by
  obtain ⟨Ds, rfl, h1, h2⟩ := h
  refine ⟨D :: Ds, rfl, List.nodup_cons.2 ⟨fun hm => by have := (h2 D hm).2.1; omega, h1⟩, fun E hE => ?_⟩
  rcases List.mem_cons.1 hE with rfl | hE
  · exact ⟨hB, by omega, hD⟩
  · have := h2 E hE
    exact ⟨this.1, by omega, this.2.2⟩
theorem Coll.mono {B N N' : Nat} {ds : List Deferred} {W : World} (h : Coll B N ds W) (hN : N ≤ N') : Coll B N' ds W := by
  obtain ⟨Ds, e, h1, h2⟩ := h
  exact ⟨Ds, e, h1, fun D hD => ⟨(h2 D hD).1, by have := (h2 D hD).2.1; omega, (h2 D hD).2.2⟩⟩
theorem Coll.keep {B N : Nat} {ds : List Deferred} {W W' : World} (h : Coll B N ds W) (hk : ∀ (k : Nat) (o : Obj), k < N → B ≤ k → W.heap[k]? = some o → o.isCells = false → W'.heap[k]? = some o) : Coll B N ds W' := by
  obtain ⟨Ds, e, h1, h2⟩ := h
  exact ⟨Ds, e, h1, fun D hD => ⟨(h2 D hD).1, (h2 D hD).2.1, hk D _ (h2 D hD).2.1 (h2 D hD).1 (h2 D hD).2.2 rfl⟩⟩
theorem Coll.below {B N N' : Nat} {ds : List Deferred} {W W' : World} (h : Coll B N ds W) (hb : Below N' W W') (hN : N ≤ N') : Coll B N ds W' := h.keep fun k o hk _ ho _ => (hb.block k (by omega)).trans ho
theorem Coll.others {B N : Nat} {ds : List Deferred} {W W' : World} (h : Coll B N ds W) (hb : KeepsOthers W W') : Coll B N ds W' := h.keep fun k o _ _ ho hc => hb.same k o ho hc
theorem ownFrom_coll {β : Type} {B N B' : Nat} {ds : List Deferred} (hN : N ≤ B') : OwnFrom B' (fun (_ : β) W => Coll B N ds W) := fun s X Y row hs hg hrow =>
  hs.keep fun k o hk _ ho _ => (hg.block k (Array.getElem?_eq_some_iff.1 ho).1 (fun e => by have := (hrow k e.symm).1; omega)).trans ho

/-- at the return all marks are taken, one after another -/
theorem leaves_coll {F : Fence} {n : Nat} {P : Program} {fn : Func} {tmps : Array Value} {R : Ending → World → Prop} {v : Value} {B N : Nat} (hres : ∀ W, (results fn tmps).run P W = .ok v W) :
    ∀ (Ds : List Nat) (W : World), Ds.Nodup → (∀ D, D ∈ Ds → B ≤ D ∧ D < N ∧ W.heap[D]? = some (.deferred (some []))) → (∀ W', ShutB B W W' → R (.returned v) W') → LeavesInM F n P fn tmps R (Ds.map mark) .returning W
  | [], W, _, _, hR => ⟨v, hres W, hR W (ShutB.refl _ _)⟩
  | D :: Ds, W, hn, hD, hR => by
    obtain ⟨h1, _, h3⟩ := hD D (by simp)
    refine ⟨by simp, .inl ⟨D, _, rfl, run_takeDeferred h3, ?_⟩⟩
    have hn' := List.nodup_cons.1 hn
    refine leaves_coll (B := B) (N := N) hres Ds _ hn'.2 (fun E hE => ?_) (fun W' hS => hR W' (hS.put h1 h3))
    obtain ⟨a1, a2, a3⟩ := hD E (by simp [hE])
    exact ⟨a1, a2, (World.putObj_heap_other (fun e => hn'.1 (by rw [← e]; exact hE))).trans a3⟩

theorem Coll.leaves {F : Fence} {n : Nat} {P : Program} {fn : Func} {tmps : Array Value} {R : Ending → World → Prop} {v : Value} {B N : Nat} {ds : List Deferred} {W : World} (h : Coll B N ds W) (hres : ∀ W, (results fn tmps).run P W = .ok v W)
    (hR : ∀ W', ShutB B W W' → R (.returned v) W') : LeavesInM F n P fn tmps R ds .returning W := by
  obtain ⟨Ds, rfl, h1, h2⟩ := h
  exact leaves_coll hres Ds W h1 h2 hR

/-- a loop inside a fence; what the round must hand on stands behind a variable -/
theorem wpIn_loop_k {F : Fence} {n : Nat} {P : Program} {Q : Exit → Act → World → Prop} {a : Act} {w : World} {c : Code} (I : Act → World → Prop) (μ : Act → World → Nat) (h₀ : I a w)
    (round : ∀ a w, I a w → ∀ K : Act → World → Prop, (∀ a' w', I a' w' → μ a' w' < μ a w → K a' w') → c.wpIn F n P (Exit.then K Q) a w) : (Code.loop c).wpIn F n P Q a w :=
  wpIn_loop I μ h₀ fun a w h => round a w h _ fun _ _ x y => ⟨x, y⟩

end Go.Proofs.Ytcfeckpbjdipeaa

/- A range over an iterator that ranges over another one itself; the loop's body never leaves the loop. No program is named here. -/
namespace Go.Proofs.Ytcfeckpbjdipeaa
open Go Go.RowKit
set_option linter.unusedVariables false

/-- an iterator at rest, for consumers that never stop it: their invariant abides whatever is done to blocks that are no cells, beyond the world in which the iterator was called -/
def CalmSeq {α : Type} (F : Fence) (n : Nat) (P : Program) (gf : Nat) (lb : Array Value) (encs : α → Array Value) (Kq : Nat → World → World → Prop) (S : List α → Prop) (N : Nat) (w : World) : Prop :=
  ∀ (l : Nat) (J : List α → World → Prop) (W : World), Below w.heap.size w W → OwnFrom W.heap.size J →
    (∀ pre x W1, J pre W1 → pre.length < N → YieldAt F (n - 1) P l (encs x) W1 fun e W' => e = .returned (.bool true) ∧ J (pre ++ [x]) W' ∧ Kq W.heap.size W1 W') →
    J [] W → CallsIn F n P gf (#[.func (.yield l) #[] #[]] ++ lb) W fun e W' => (∃ v, e = .returned v) ∧ ∃ xs, S xs ∧ J xs W'

/-- a body's end -/
def calmPost {α : Type} (Kp : World → World → Prop) (I : List α → World → Prop) (xs : List α) (W : World) : Exit → Act → World → Prop
  | .normal, _, W' => KeepsOthers W W' ∧ Kp W W' ∧ I xs W'
  | _, _, _ => False

theorem own_block {β : Type} {B b : Nat} {o : Obj} (hb : b < B) : OwnFrom B (fun (_ : β) W => W.heap[b]? = some o) := fun s X Y row hs hg hrow =>
  (hg.block b (Array.getElem?_eq_some_iff.1 hs).1 (fun e => by have := (hrow b e.symm).1; omega)).trans hs
theorem ownFrom_up {β : Type} {B B' : Nat} {I : β → World → Prop} (h : OwnFrom B I) (hB : B ≤ B') : OwnFrom B' I := fun s X Y row hs hg hrow =>
  h s X Y row hs hg fun r e => ⟨Nat.le_trans hB (hrow r e).1, (hrow r e).2⟩

theorem wpIn_calm {F : Fence} {n : Nat} {P : Program} {α : Type} {g : Operand} {ps : Array Tmp} {assign body : Code} {Q : Exit → Act → World → Prop} {a : Act} {w w0 : World} {gf : Nat} {lb : Array Value} {encs : α → Array Value}
    {Kq : Nat → World → World → Prop} {S : List α → Prop} {N : Nat} (hseq : CalmSeq F (n - 1) P gf lb encs Kq S N w0)
    (hro : F.round = none) (h1 : 1 ≤ n) (hg : a.eval g = .func (.func gf) #[] lb) (hFg : F.fn gf) (eg : ∀ args w, (callFunc gf args).run P w = .ok (.enter gf args) w)
    (hKt : ∀ {s : Nat} {A B C : World}, Kq s A B → Kq s B C → Kq s A C) (hKb : ∀ (s : Nat) (W : World) (l : Nat) (o' : Obj), w.heap.size ≤ l → l < s → Kq s W (W.putObj l o'))
    (hb0 : Below w0.heap.size w0 w) (hps : ∀ x, (encs x).size = ps.size)
    (I : List α → World → Prop) (hI : OwnFrom w.heap.size I) (h0 : I [] w) (a₁ : α → Act)
    (hassign : ∀ (l : Nat) (x : α) (W : World) (K : Act → World → Prop), K (a₁ x) W →
      assign.wpIn (F.inRound l) (n - 1 - 1) P (Exit.then K (fun _ _ _ => False)) { tmps := (ps.zip (encs x)).foldl (fun t (p, v) => t.setIfInBounds p v) a.tmps, defers := [] } W)
    (hbody : ∀ (l : Nat) (pre : List α) (x : α) (W : World), I pre W → pre.length < N → body.wpIn (F.inRound l) (n - 1 - 1) P (calmPost (Kq (w.heap.size + 2)) I (pre ++ [x]) W) (a₁ x) W)
    (hdone : ∀ (D : Nat) (xs : List α) (W : World), w.heap.size ≤ D → S xs → I xs W → W.heap[D]? = some (.deferred (some [])) → Q .normal { a with defers := mark D :: a.defers } W) :
    (Code.rangeFunc g ps assign body).wpIn F n P Q a w := by
  refine wpIn_rangeFunc fun fn hfn => ?_
  -- the loop's record, by its state
  have key : ∃ rec : LoopState → Loop, rec = fun st => { state := st, pending := none, fn := fn, tmps := a.tmps, params := ps, assign := assign, body := body, defers := w.heap.size } := ⟨_, rfl⟩
  obtain ⟨rec, hrec⟩ := key
  have hst : ∀ st, (rec st).state = st := fun st => by rw [hrec]
  have hwith : ∀ st st', { rec st with state := st' } = rec st' := fun st st' => by rw [hrec]
  have hpend : ∀ st, (rec st).pending = none := fun st => by rw [hrec]
  obtain ⟨b, hb⟩ : ∃ b, b = w.heap.size := ⟨_, rfl⟩
  have hsz : ((w.alloc (.deferred (some []))).alloc (.loop (rec .ready))).heap.size = b + 2 := by rw [hb]; simp
  have hl0 : ((w.alloc (.deferred (some []))).alloc (.loop (rec .ready))).heap[b + 1]? = some (.loop (rec .ready)) := by
    have := World.alloc_heap_new (w.alloc (.deferred (some []))) (.loop (rec .ready))
    rw [World.size_alloc, ← hb] at this
    exact this
  have hd0 : ((w.alloc (.deferred (some []))).alloc (.loop (rec .ready))).heap[b]? = some (.deferred (some [])) := by
    rw [Below.heap_alloc _ _ _ (by rw [hb]; simp), hb]
    exact World.alloc_heap_new w _
  have hi0 : I [] ((w.alloc (.deferred (some []))).alloc (.loop (rec .ready))) := hI.alloc _ (hI.alloc _ h0)
  have hbe : Below w0.heap.size w0 ((w.alloc (.deferred (some []))).alloc (.loop (rec .ready))) :=
    hb0.trans ((((Below.refl _ w).alloc (Nat.le_refl _) _).alloc (by simp) _).mono hb0.size)
  refine ⟨b + 1, [mark b], (w.alloc (.deferred (some []))).alloc (.loop (rec .ready)), { target := .fn (.func gf) lb, args := #[.func (.yield (b + 1)) #[] #[]] }, (w.alloc (.deferred (some []))).alloc (.loop (rec .ready)), gf, #[.func (.yield (b + 1)) #[] #[]] ++ lb, (w.alloc (.deferred (some []))).alloc (.loop (rec .ready)), ?_, ?_, ?_, ?_, fun _ => h1, ?_⟩
  · rw [hro, hb, hrec]
    exact run_enterLoop_outer _ _ _ _ _
  · simp only [resolve, hg]
    simp [go_sem]
  · intro f' hf'
    simp [Target.leads] at hf'
    subst hf'
    exact hFg
  · simp [invoke, go_sem, eg]
  refine (hseq (b + 1) (fun pre W => (I pre W ∧ W.heap[b + 1]? = some (.loop (rec .ready))) ∧ W.heap[b]? = some (.deferred (some []))) _ hbe
    (OwnFrom.and (OwnFrom.and (ownFrom_up hI (by omega)) (own_block (by omega))) (own_block (by omega))) ?_ ⟨⟨hi0, hl0⟩, hd0⟩).mono ?_
  · rintro pre x W ⟨⟨hi, hl⟩, hd⟩ hlen
    have hlt := (Array.getElem?_eq_some_iff.1 hl).1
    have hy := run_yield (P := P) (args := encs x) hl (by rw [hrec]; exact hps x)
    have hbg := run_beginRound (P := P) hl (hst .ready)
    rw [hwith] at hbg
    have hl2 : (W.putObj (b + 1) (.loop (rec .busy))).heap[b + 1]? = some (.loop (rec .busy)) := World.putObj_heap_same hlt
    have hd2 : (W.putObj (b + 1) (.loop (rec .busy))).heap[b]? = some (.deferred (some [])) := (World.putObj_heap_other (by omega)).trans hd
    have hw := hbody (b + 1) pre x _ (hI.putObj (.loop (rec .busy)) hi (by omega) hl rfl) hlen
    have hk1 := hKb (w.heap.size + 2) W (b + 1) (.loop (rec .busy)) (by omega) (by omega)
    rw [hrec] at hy
    refine ⟨fn, _, assign, body, hy, roundIn_of_wpIn hfn (hassign (b + 1) x W _ ⟨_, hbg, wpIn_mono hw ?_⟩)⟩
    rintro e a3 W3 hp
    cases e with
    | normal =>
      obtain ⟨p1, p2, p3⟩ := hp
      have hl3 := p1.same _ _ hl2 rfl
      have hd3 := p1.same _ _ hd2 rfl
      have hend := run_endRound (P := P) none hl3
      have hrw : { rec .busy with state := if (none : Option Code).isNone then .ready else .done, pending := none } = rec .ready := by rw [hrec]; rfl
      rw [hrw] at hend
      refine ⟨_, _, hend, rfl, ⟨⟨hI.putObj _ p3 (by omega) hl3 rfl, World.putObj_heap_same (Array.getElem?_eq_some_iff.1 hl3).1⟩, (World.putObj_heap_other (by omega)).trans hd3⟩, ?_⟩
      rw [hsz, hb]
      exact hKt hk1 (hKt p2 (hKb _ _ _ _ (by omega) (by omega)))
    | ret => exact hp.elim
    | exit id => exact hp.elim
    | goto t => exact hp.elim
    | panic ch => exact hp.elim
    | outgrown => exact hp.elim
  · rintro e W2 ⟨⟨v, rfl⟩, xs, hS, ⟨hi, hl⟩, hd⟩
    have hend := run_endLoop (P := P) hl (by rw [hst]; simp)
    rw [hpend] at hend
    exact ⟨none, _, hend, hdone b xs _ (by omega) hS (hI.putObj _ hi (by omega) hl rfl) ((World.putObj_heap_other (by omega)).trans hd)⟩

theorem yield_round {m m' l l' : Nat} {P : Program} {args : Array Value} {W : World} {R : Ending → World → Prop} (h : YieldAt Fence.wide m P l args W R) : YieldAt (Fence.wide.inRound l') m' P l args W R := by
  obtain ⟨fn, tmps, assign, body, hy, hR⟩ := h
  exact ⟨fn, tmps, assign, body, hy, hR.1, fun c cs _ => hR.2 c cs (fun d hd => by cases hd)⟩

/-- at the return all marks are taken; what abides that still holds -/
theorem leaves_coll_own {F : Fence} {n : Nat} {P : Program} {fn : Func} {tmps : Array Value} {R : Ending → World → Prop} {v : Value} {B N : Nat} (T : World → Prop) (hT : ∀ W D, B ≤ D → W.heap[D]? = some (.deferred (some [])) → T W → T (W.putObj D (.deferred none)))
    (hres : ∀ W, (results fn tmps).run P W = .ok v W) : ∀ (Ds : List Nat) (W : World), Ds.Nodup → (∀ D, D ∈ Ds → B ≤ D ∧ D < N ∧ W.heap[D]? = some (.deferred (some []))) → T W → (∀ W', T W' → R (.returned v) W') → LeavesInM F n P fn tmps R (Ds.map mark) .returning W
  | [], W, _, _, hW, hR => ⟨v, hres W, hR W hW⟩
  | D :: Ds, W, hn, hD, hW, hR => by
    obtain ⟨h1, _, h3⟩ := hD D (by simp)
    refine ⟨by simp, .inl ⟨D, _, rfl, run_takeDeferred h3, ?_⟩⟩
    have hn' := List.nodup_cons.1 hn
    refine leaves_coll_own (N := N) T hT hres Ds _ hn'.2 (fun E hE => ?_) (hT W D h1 h3 hW) hR
    obtain ⟨a1, a2, a3⟩ := hD E (by simp [hE])
    exact ⟨a1, a2, (World.putObj_heap_other (fun e => hn'.1 (by rw [← e]; exact hE))).trans a3⟩

theorem Coll.leaves_own {F : Fence} {n : Nat} {P : Program} {fn : Func} {tmps : Array Value} {R : Ending → World → Prop} {v : Value} {B N : Nat} {ds : List Deferred} {W : World} (h : Coll B N ds W) (T : World → Prop) (hT : ∀ W D, B ≤ D → W.heap[D]? = some (.deferred (some [])) → T W → T (W.putObj D (.deferred none)))
    (hres : ∀ W, (results fn tmps).run P W = .ok v W) (hW : T W) (hR : ∀ W', T W' → R (.returned v) W') : LeavesInM F n P fn tmps R ds .returning W := by
  obtain ⟨Ds, rfl, h1, h2⟩ := h
  exact leaves_coll_own T hT hres Ds W h1 h2 hW hR

end Go.Proofs.Ytcfeckpbjdipeaa

/- Basins: what is reckoned. -/
namespace Go.Proofs.Ytcfeckpbjdipeaa
set_option linter.unusedVariables false

/-- where the run of a cell ends -/
def endI (R C : Nat) (Z : Nat → Int) (i : Ix (R * C)) : Ix (R * C) := (runL R C Z i).getLastD i
/-- the ends of the runs of the cells below k -/
def bsL (R C : Nat) (Z : Nat → Int) : Nat → List (Ix (R * C))
  | 0 => []
  | k + 1 => bsL R C Z k ++ (if h : k < R * C then [endI R C Z ⟨k, h⟩] else [])
theorem bsL_succ {R C : Nat} {Z : Nat → Int} (i : Ix (R * C)) : bsL R C Z (i.1 + 1) = bsL R C Z i.1 ++ [endI R C Z i] := by
  have e : (⟨i.1, i.2⟩ : Ix (R * C)) = i := rfl
  simp only [bsL, i.2, dif_pos]
theorem bsL_len (R C : Nat) (Z : Nat → Int) : ∀ k, k ≤ R * C → (bsL R C Z k).length = k
  | 0, _ => by simp [bsL]
  | k + 1, h => by
    have := bsL_len R C Z k (by omega)
    simp only [bsL, List.length_append]
    have h2 : k < R * C := by omega
    simp [h2, this]
theorem IsRun.pos {R C : Nat} {Z : Nat → Int} {i : Ix (R * C)} {l : List (Ix (R * C))} (h : IsRun R C Z i l) : 0 < l.length := by
  rcases h.cons with ⟨_, e⟩ | ⟨_, t, e, _⟩ <;> rw [e] <;> simp
theorem endI_at {R C : Nat} {Z : Nat → Int} (hZ : ∀ x, x < R * C → 0 ≤ Z x ∧ Z x ≤ 99) (i : Ix (R * C)) : (runL R C Z i)[(runL R C Z i).length - 1]? = some (endI R C Z i) := by
  have h := (runL_is hZ i).pos
  unfold endI
  generalize runL R C Z i = l at h
  cases l with
  | nil => simp at h
  | cons x l => rw [List.getLastD_cons, ← List.getLast?_eq_getElem?, List.getLast?_cons]; simp [List.getLastD_eq_getLast?]

end Go.Proofs.Ytcfeckpbjdipeaa
