/- The program's heap by rank: push. -/
import Derived.Test.YtlbdglhippapnabHpM
import Derived.Test.YtlbdglhippapnabPkI
import Derived.Deep.AppendLies
import Derived.Deep.RegionLaw
import Derived.StillTailTactics
import Derived.BigRegion
import Derived.BigQuiet
namespace Go.Proofs.Ytlbdglhippapnab
open Go.RowKit
set_option linter.unusedVariables false

/-- block b holds, up to cap places, the cells f 0 .. f (n - 1) with their heights -/
def HpR (W : World) (b cap : Nat) (Z : Nat → Int) (f : Nat → Nat) (n : Nat) : Prop :=
  ∃ F : Nat → Value, W.rowIs b 60 (cap * 2) F ∧ ∀ k, k < n → F (k * 2) = .int .i64 (Z (f k)) ∧ F (k * 2 + 1) = .int .i64 (f k)
theorem HpR.lt {W : World} {b cap : Nat} {Z : Nat → Int} {f : Nat → Nat} {n : Nat} (h : HpR W b cap Z f n) : b < W.heap.size := by obtain ⟨F, h1, _⟩ := h; exact h1.lt
theorem HpR.keep {W W' : World} {b cap : Nat} {Z : Nat → Int} {f : Nat → Nat} {n : Nat} (h : HpR W b cap Z f n) (hb : W'.heap[b]? = W.heap[b]?) : HpR W' b cap Z f n := by
  obtain ⟨F, h1, h2⟩ := h
  exact ⟨F, h1.of_block hb, h2⟩
theorem HpR.at {W : World} {b cap : Nat} {Z : Nat → Int} {f : Nat → Nat} {n k : Nat} (h : HpR W b cap Z f n) (hn : n ≤ cap) (hk : k < n) :
    W.cell? ⟨b, k * 2, none⟩ = some (.int .i64 (Z (f k))) ∧ W.cell? ⟨b, k * 2 + 1, none⟩ = some (.int .i64 (f k)) ∧ W.frozen? ⟨b, k * 2, none⟩ = false ∧ W.frozen? ⟨b, k * 2 + 1, none⟩ = false := by
  obtain ⟨F, h1, h2⟩ := h
  obtain ⟨a1, a2⟩ := h2 k hk
  have c1 := h1.cell (i := k * 2) (by omega)
  have c2 := h1.cell (i := k * 2 + 1) (by omega)
  rw [a1] at c1
  rw [a2] at c2
  exact ⟨c1, c2, h1.frozen _, h1.frozen _⟩
theorem HpR.congr {W : World} {b cap : Nat} {Z : Nat → Int} {f g : Nat → Nat} {n : Nat} (h : HpR W b cap Z f n) (e : ∀ k, k < n → f k = g k) : HpR W b cap Z g n := by
  obtain ⟨F, h1, h2⟩ := h
  exact ⟨F, h1, fun k hk => by rw [← e k hk]; exact h2 k hk⟩
theorem HpR.less {W : World} {b cap : Nat} {Z : Nat → Int} {f : Nat → Nat} {n m : Nat} (h : HpR W b cap Z f n) (hm : m ≤ n) : HpR W b cap Z f m := by
  obtain ⟨F, h1, h2⟩ := h
  exact ⟨F, h1, fun k hk => h2 k (by omega)⟩
/-- one place is written -/
theorem HpR.put {W : World} {b cap : Nat} {Z : Nat → Int} {f g : Nat → Nat} {n i x : Nat} (h : HpR W b cap Z f n) (e : ∀ k, k < n → g k = if k = i then x else f k) :
    HpR ((W.setCell ⟨b, i * 2, none⟩ (.int .i64 (Z x))).setCell ⟨b, i * 2 + 1, none⟩ (.int .i64 x)) b cap Z g n := by
  obtain ⟨F, h1, h2⟩ := h
  refine ⟨_, (h1.set (i * 2) (.int .i64 (Z x))).set (i * 2 + 1) (.int .i64 x), fun k hk => ?_⟩
  rw [e k hk]
  by_cases h3 : k = i
  · subst h3
    simp
  · have e1 : k * 2 ≠ i * 2 + 1 := by omega
    have e2 : k * 2 ≠ i * 2 := by omega
    have e3 : k * 2 + 1 ≠ i * 2 + 1 := by omega
    have e4 : k * 2 + 1 ≠ i * 2 := by omega
    simp only [if_neg h3, if_neg e1, if_neg e2, if_neg e3, if_neg e4]
    exact h2 k hk
theorem HpR.swap {W : World} {b cap : Nat} {Z : Nat → Int} {f : Nat → Nat} {n i j : Nat} (h : HpR W b cap Z f n) (hij : i ≠ j) :
    HpR ((((W.setCell ⟨b, i * 2, none⟩ (.int .i64 (Z (f j)))).setCell ⟨b, i * 2 + 1, none⟩ (.int .i64 (f j))).setCell ⟨b, j * 2, none⟩ (.int .i64 (Z (f i)))).setCell ⟨b, j * 2 + 1, none⟩ (.int .i64 (f i))) b cap Z (swp f i j) n := by
  refine (h.put (g := fun k => if k = i then f j else f k) (fun k _ => rfl)).put (fun k hk => ?_)
  unfold swp
  by_cases h1 : k = i
  · have h2 : k ≠ j := fun e => hij (h1.symm.trans e)
    rw [if_pos h1, if_neg h2, if_pos h1]
  · rw [if_neg h1]
    by_cases h2 : k = j
    · rw [if_pos h2, if_pos h2]
    · rw [if_neg h2, if_neg h2, if_neg h1]

theorem HpR.own {W : World} {b cap : Nat} {Z : Nat → Int} {f : Nat → Nat} {n B : Nat} (h : HpR W b cap Z f n) (hn : n ≤ cap) (hc : cap ≤ maxLen) (hB : B ≤ b) :
    ∃ xs, W.ownsRow B 60 2 (.slice (some ⟨b, 0, none⟩) n cap) n xs ∧ ∀ k, k < n → xs[k * 2]? = some (.int .i64 (Z (f k))) ∧ xs[k * 2 + 1]? = some (.int .i64 (f k)) := by
  obtain ⟨F, ⟨cs, h0, h1, h2⟩, h3⟩ := h
  have hs : n * 2 ≤ cs.size := by omega
  refine ⟨cs.toList.take (n * 2), ⟨by simp; omega, Or.inr ⟨b, cap, cs, rfl, hB, h0, hn, hc, h1, rfl⟩⟩, fun k hk => ?_⟩
  obtain ⟨a1, a2⟩ := h3 k hk
  rw [List.getElem?_take_of_lt (by omega), List.getElem?_take_of_lt (by omega), Array.getElem?_toList, Array.getElem?_toList, h2 _ (by omega), h2 _ (by omega), a1, a2]
  exact ⟨rfl, rfl⟩
theorem own_hpR {W : World} {B m n cap b : Nat} {xs : List Value} {Z : Nat → Int} {f : Nat → Nat} (h : W.ownsRow B 60 2 (.slice (some ⟨b, 0, none⟩) m cap) n xs) (hx : ∀ k, k < n → xs[k * 2]? = some (.int .i64 (Z (f k))) ∧ xs[k * 2 + 1]? = some (.int .i64 (f k))) :
    B ≤ b ∧ m = n ∧ n ≤ cap ∧ cap ≤ maxLen ∧ HpR W b cap Z f n := by
  obtain ⟨hlen, ⟨e, h0⟩ | ⟨b', cap', cur, e, hB, hb, hc, hcap, hcs, ht⟩⟩ := h
  · cases e
  · simp only [Value.slice.injEq, Option.some.injEq, Addr.mk.injEq, and_true] at e
    obtain ⟨rfl, rfl, rfl⟩ := e
    refine ⟨hB, rfl, hc, hcap, fun i => cur[i]?.getD (.int .i64 0), ⟨cur, hb, hcs, fun i hi => ?_⟩, fun k hk => ?_⟩
    · have hi' : i < cur.size := by omega
      simp [hi']
    · obtain ⟨a1, a2⟩ := hx k hk
      rw [← ht, List.getElem?_take_of_lt (by omega), Array.getElem?_toList] at a1 a2
      simp [a1, a2]

/-- block hb is a heap whose places, in block ob, hold f 0 .. f (n - 1) -/
def HpW (W : World) (hb : Nat) (ob : Option Nat) (Z : Nat → Int) (f : Nat → Nat) (n : Nat) : Prop :=
  ∃ v, W.heap[hb]? = some (.cells #[v] 56 (0, 0)) ∧
    ((v = .slice none 0 0 ∧ n = 0 ∧ ob = none) ∨ ∃ b cap, v = .slice (some ⟨b, 0, none⟩) n cap ∧ ob = some b ∧ hb < b ∧ n ≤ cap ∧ cap ≤ maxLen ∧ HpR W b cap Z f n)
/-- what is neither the heap nor its places stays -/
structure HpFr (hb : Nat) (ob : Option Nat) (w w' : World) : Prop where
  os : w'.os = w.os
  tape : w'.tape = w.tape
  output : w'.output = w.output
  size : w.heap.size ≤ w'.heap.size
  block : ∀ k, k < w.heap.size → k ≠ hb → some k ≠ ob → w'.heap[k]? = w.heap[k]?
/-- the places of old, or new ones -/
def NewOb (N : Nat) (ob ob' : Option Nat) : Prop := ob' = ob ∨ ∃ b, ob' = some b ∧ N ≤ b
theorem HpFr.refl (hb : Nat) (ob : Option Nat) (w : World) : HpFr hb ob w w := ⟨rfl, rfl, rfl, Nat.le_refl _, fun _ _ _ _ => rfl⟩
theorem HpFr.trans {hb : Nat} {ob ob' : Option Nat} {a b c : World} (h : HpFr hb ob a b) (h2 : HpFr hb ob' b c) (hn : NewOb a.heap.size ob ob') : HpFr hb ob a c := by
  refine ⟨h2.os.trans h.os, h2.tape.trans h.tape, h2.output.trans h.output, Nat.le_trans h.size h2.size, fun k h0 h1 h3 => ?_⟩
  refine (h2.block k (by have := h.size; omega) h1 ?_).trans (h.block k h0 h1 h3)
  rcases hn with e | ⟨b', e, hb'⟩
  · rw [e]; exact h3
  · rw [e]; intro e2; simp only [Option.some.injEq] at e2; omega
theorem HpFr.ofBelow {hb B : Nat} {ob : Option Nat} {w w' : World} (h : Below B w w') (hB : w.heap.size ≤ B) : HpFr hb ob w w' := ⟨h.os, h.tape, h.output, h.size, fun k h0 _ _ => h.block k (by omega)⟩
theorem HpFr.below {hb B : Nat} {ob : Option Nat} {w w' : World} (h : HpFr hb ob w w') (hB : B ≤ w.heap.size) (h1 : B ≤ hb) (h2 : ∀ b, ob = some b → B ≤ b) : Below B w w' :=
  ⟨h.os, h.tape, h.output, h.size, fun k hk => h.block k (by omega) (by omega) (fun e => by have := h2 k e.symm; omega)⟩

theorem Try.infoSp : (Try.prog.info? 60).map (fun i => (i.zero, i.size, i.bytes)) = some (some (.agg #[.int .i64 0, .int .i64 0]), 2, 16) := by kernel_rfl

theorem Try.methodAbove (n : Nat) (p q : Int) (W : World) : Sem.run Try.prog (method (n + 1) 60 (.agg #[.int .i64 p, .int .i64 q]) "loop.example/reliefmaps/impl.above") W = .ok (72, .agg #[.int .i64 p, .int .i64 q]) W := by kernel_rfl

/-- what a push leaves -/
def PushPost (hb : Nat) (ob : Option Nat) (Z : Nat → Int) (n x : Nat) (S : Nat → Prop) (w : World) (e : Ending) (w' : World) : Prop :=
  (∃ v, e = .returned v) ∧ ∃ f' ob', HpW w' hb ob' Z f' (n + 1) ∧ HpS Z f' (n + 1) (fun y => S y ∨ y = x) ∧ NewOb w.heap.size ob ob' ∧ HpFr hb ob w w'

/-- the state of push's loop -/
structure PuI (w wr : World) (hb b cap : Nat) (ob : Option Nat) (Z : Nat → Int) (n x i : Nat) (S : Nat → Prop) (f : Nat → Nat) : Prop where
  up : UpOk Z f (n + 1) i
  inj : InjN f (n + 1)
  mem : ∀ y, (S y ∨ y = x) ↔ InN f (n + 1) y
  box : wr.heap[hb]? = some (.cells #[.slice (some ⟨b, 0, none⟩) (n + 1) cap] 56 (0, 0))
  row : HpR wr b cap Z f (n + 1)
  new : NewOb w.heap.size ob (some b)
  fr : HpFr hb ob w wr
  cp : n + 1 ≤ cap ∧ cap ≤ maxLen

theorem push_start {w w2 w1 : World} {hb g' cap' n x H : Nat} {ob : Option Nat} {v : Value} {Z : Nat → Int} {f : Nat → Nat} {S : Nat → Prop} {xs : List Value} (hbx : w.heap[hb]? = some (.cells #[v] 56 (0, 0))) (hv : v.ownBlock = ob)
    (hob : ∀ k, ob = some k → hb < k) (hb2 : Below w.heap.size w w2) (hg : w2.grownBy w1 v.ownBlock) (hown : w1.ownsRow (hb + 1) 60 2 (.slice (some ⟨g', 0, none⟩) (n + 1) cap') (n + 1) (xs ++ [.int .i64 (Z x), .int .i64 x]))
    (hat : v.ownBlock = some g' ∨ g' = H) (hH : w.heap.size ≤ H) (hlen : xs.length = n * 2) (hxs : ∀ k, k < n → xs[k * 2]? = some (.int .i64 (Z (f k))) ∧ xs[k * 2 + 1]? = some (.int .i64 (f k))) (hS : HpS Z f n S) (hx : ¬ S x) :
    w1.cell? ⟨hb, 0, none⟩ = some v ∧ w1.frozen? ⟨hb, 0, none⟩ = false ∧ PuI w (w1.setCell ⟨hb, 0, none⟩ (.slice (some ⟨g', 0, none⟩) (n + 1) cap')) hb g' cap' ob Z n x n S (putF f n x) := by
  have hlt : hb < w.heap.size := (Array.getElem?_eq_some_iff.1 hbx).1
  have e1 : w1.heap[hb]? = some (.cells #[v] 56 (0, 0)) := by
    rw [hg.block hb (by have := hb2.size; omega) (fun e => by have := hob hb (hv.symm.trans e.symm); omega), hb2.block hb hlt, hbx]
  obtain ⟨o1, _, o3, o4, o5⟩ := own_hpR (Z := Z) (f := putF f n x) hown (fun k hk => by
    by_cases h : k = n
    · subst h
      rw [putF_at, List.getElem?_append_right (by omega), List.getElem?_append_right (by omega), hlen]
      simp
    · rw [putF_lt (show k < n by omega), List.getElem?_append_left (by omega), List.getElem?_append_left (by omega)]
      exact hxs k (by omega))
  refine ⟨one_cell e1, by simp [World.frozen?, e1], upOk_put x hS.ok, putF_inj hS.inj (fun h => hx ((hS.mem x).2 h)), fun y => by rw [putF_in, hS.mem], ?_, o5.keep (Below.heap_setCell _ _ _ _ (by simp; omega)), ?_, ?_, o3, o4⟩
  · have := heap_setCell_same w1 hb 0 #[v] _ (.slice (some ⟨g', 0, none⟩) (n + 1) cap') e1
    simpa using this
  · rcases hat with e | e
    · exact Or.inl (by rw [← hv, e])
    · exact Or.inr ⟨g', rfl, by omega⟩
  · refine ⟨hg.os.trans hb2.os, hg.tape.trans hb2.tape, hg.output.trans hb2.output, ?_, fun k h0 h1 h2 => ?_⟩
    · have := hg.size; have := hb2.size; simp [World.setCell]; omega
    · rw [Below.heap_setCell _ _ _ _ (by simpa using h1), hg.block k (by have := hb2.size; omega) (by rw [hv]; exact h2), hb2.block k h0]

theorem PuI.drewN {w wr : World} {hb b cap n x i : Nat} {ob : Option Nat} {Z : Nat → Int} {S : Nat → Prop} {f : Nat → Nat} (h : PuI w wr hb b cap ob Z n x i S f) (k : Nat) : PuI w (wr.drewN k) hb b cap ob Z n x i S f :=
  ⟨h.up, h.inj, h.mem, h.box, h.row.keep rfl, h.new, ⟨h.fr.os, h.fr.tape, h.fr.output, h.fr.size, h.fr.block⟩, h.cp⟩

theorem PuI.facts {w wr : World} {hb b cap n x i : Nat} {ob : Option Nat} {Z : Nat → Int} {S : Nat → Prop} {f : Nat → Nat} (h : PuI w wr hb b cap ob Z n x i S f) (hob : ∀ k, ob = some k → hb < k) (hl : hb < w.heap.size) : hb < b := by
  rcases h.new with e | ⟨b', e, hb'⟩
  · exact hob b e.symm
  · simp only [Option.some.injEq] at e; omega
theorem PuI.below {w wr w2 : World} {hb b cap n x i : Nat} {ob : Option Nat} {Z : Nat → Int} {S : Nat → Prop} {f : Nat → Nat} (h : PuI w wr hb b cap ob Z n x i S f) (hb2 : Below wr.heap.size wr w2) : PuI w w2 hb b cap ob Z n x i S f :=
  ⟨h.up, h.inj, h.mem, (hb2.block hb (Array.getElem?_eq_some_iff.1 h.box).1).trans h.box, h.row.keep (hb2.block b h.row.lt), h.new, h.fr.trans (HpFr.ofBelow hb2 (Nat.le_refl _)) h.new, h.cp⟩
theorem PuI.done {w wr : World} {hb b cap n x i : Nat} {ob : Option Nat} {Z : Nat → Int} {S : Nat → Prop} {f : Nat → Nat} (h : PuI w wr hb b cap ob Z n x i S f) (hl : hb < b) (hc : n + 1 ≤ cap) (hm : cap ≤ maxLen) (hi : i = 0 ∨ hiB Z (f i) (f ((i - 1) / 2)) = false) :
    ∃ f' ob', HpW wr hb ob' Z f' (n + 1) ∧ HpS Z f' (n + 1) (fun y => S y ∨ y = x) ∧ NewOb w.heap.size ob ob' ∧ HpFr hb ob w wr :=
  ⟨f, some b, ⟨_, h.box, Or.inr ⟨b, cap, rfl, rfl, hl, hc, hm, h.row⟩⟩, ⟨upOk_end h.up hi, h.inj, h.mem⟩, h.new, h.fr⟩
theorem HpFr.setCell {hb : Nat} {ob : Option Nat} {w wr : World} (h : HpFr hb ob w wr) {b c : Nat} (hn : NewOb w.heap.size ob (some b)) (u : Value) : HpFr hb ob w (wr.setCell ⟨b, c, none⟩ u) := by
  refine ⟨h.os, h.tape, h.output, by simpa [World.setCell] using h.size, fun k h0 h1 h2 => ?_⟩
  rw [Below.heap_setCell _ _ _ _ (fun e => ?_), h.block k h0 h1 h2]
  rcases hn with e2 | ⟨b', e2, hb'⟩
  · exact h2 (by rw [← e2]; exact congrArg some e)
  · simp only [Option.some.injEq] at e2
    have : k = b := e
    omega
theorem PuI.swap {w wr : World} {hb b cap n x i : Nat} {ob : Option Nat} {Z : Nat → Int} {S : Nat → Prop} {f : Nat → Nat} (h : PuI w wr hb b cap ob Z n x i S f) (hl : hb < b) (h0 : 0 < i) (hi : i < n + 1) (ht : hiB Z (f i) (f ((i - 1) / 2)) = true) {u : Nat} (eu : (i - 1) / 2 = u) :
    PuI w ((((wr.setCell ⟨b, i * 2, none⟩ (.int .i64 (Z (f u)))).setCell ⟨b, i * 2 + 1, none⟩ (.int .i64 (f u))).setCell ⟨b, u * 2, none⟩ (.int .i64 (Z (f i)))).setCell ⟨b, u * 2 + 1, none⟩ (.int .i64 (f i))) hb b cap ob Z n x u S (swp f i u) := by
  subst eu
  refine ⟨upOk_step h.up h0 hi ht, injN_swp hi (by omega) h.inj, fun y => by rw [inN_swp hi (by omega), h.mem], ?_, h.row.swap (by omega), h.new, (((h.fr.setCell h.new _).setCell h.new _).setCell h.new _).setCell h.new _, h.cp⟩
  have hne : hb ≠ b := by omega
  rw [Below.heap_setCell _ _ _ _ (by simpa using hne), Below.heap_setCell _ _ _ _ (by simpa using hne), Below.heap_setCell _ _ _ _ (by simpa using hne), Below.heap_setCell _ _ _ _ (by simpa using hne), h.box]

set_option maxHeartbeats 4000000 in
set_option maxRecDepth 100000 in
theorem push_any (hb : Nat) (ob : Option Nat) (Z : Nat → Int) (f : Nat → Nat) (n x : Nat) (S : Nat → Prop) (w : World) (h : HpW w hb ob Z f n) (hS : HpS Z f n S) (hx : ¬ S x) (hn : n ≤ 1000) (hx1 : x ≤ 1000) :
    Calls Try.prog 62 #[.pointer (some ⟨hb, 0, none⟩), .agg #[.int .i64 (Z x), .int .i64 x]] w (PushPost hb ob Z n x S w) := by
  obtain ⟨i0, hi0, hz0, hz1, hz2⟩ := info_parts Try.infoSp
  obtain ⟨v, hbx, hrow⟩ := h
  have hlt : hb < w.heap.size := (Array.getElem?_eq_some_iff.1 hbx).1
  have HBX := Lib.hid hbx
  have c1 := one_cell ((Below.heap_alloc w (.cells #[.int .i64 (Z x), .int .i64 x] 60) hb hlt).trans hbx)
  have HZX := Lib.hid (show ∃ z, Z x = z from ⟨_, rfl⟩)
  obtain ⟨z, ez⟩ := HZX.out
  have EZ := Lib.hid ez
  rw [ez] at c1 ⊢
  obtain ⟨c2, c3, _, _⟩ := cells2 (heap_alloc_new w (.cells #[.int .i64 z, .int .i64 x] 60))
  have hob : v.ownBlock = ob ∧ ∀ k, ob = some k → hb < k := by
    rcases hrow with ⟨rfl, _, rfl⟩ | ⟨b, cap, rfl, rfl, h1, _⟩
    · exact ⟨rfl, fun k e => by cases e⟩
    · exact ⟨rfl, fun k e => by cases e; exact h1⟩
  have hxs : ∃ xs, w.ownsRow (hb + 1) 60 2 v n xs ∧ xs.length = n * 2 ∧ ∀ k, k < n → xs[k * 2]? = some (.int .i64 (Z (f k))) ∧ xs[k * 2 + 1]? = some (.int .i64 (f k)) := by
    rcases hrow with ⟨rfl, rfl, _⟩ | ⟨b, cap, rfl, _, h1, h2, h3, h4⟩
    · exact ⟨[], World.ownsRow_nil _ _ _ _, rfl, fun k hk => by omega⟩
    · obtain ⟨xs, o1, o2⟩ := h4.own h2 h3 (show hb + 1 ≤ b by omega)
      exact ⟨xs, o1, o1.1, o2⟩
  obtain ⟨xs, hown, hlen, hxs⟩ := hxs
  have HOWN := Lib.hid hown
  have HXS := Lib.hid (And.intro hlen hxs)
  have HOB := Lib.hid hob
  have HS := Lib.hid hS
  have HX := Lib.hid hx
  have hvs : ∃ a c, v = .slice a n c := by
    rcases hrow with ⟨rfl, rfl, _⟩ | ⟨b, cap, rfl, _⟩
    · exact ⟨_, _, rfl⟩
    · exact ⟨_, _, rfl⟩
  obtain ⟨av, cv, rfl⟩ := hvs
  clear hbx hrow hown hlen hxs hob hS hx ez HZX
  go_enter Try.func62, Try.ntmps62
  have HB2 := Lib.hid (show Below w.heap.size w ((w.alloc (.cells #[.int .i64 z, .int .i64 x] 60)).alloc (.cells #[.int .i64 z, .int .i64 x] 60)).drew from below_drewN (((Below.refl w.heap.size w).alloc (Nat.le_refl _) (.cells #[.int .i64 z, .int .i64 x] 60)).alloc (by simp) (.cells #[.int .i64 z, .int .i64 x] 60)) 1)
  have HNEW := Lib.hid (show ((w.alloc (.cells #[.int .i64 z, .int .i64 x] 60)).alloc (.cells #[.int .i64 z, .int .i64 x] 60)).drew.heap[w.heap.size + 1]? = some (.cells #[.int .i64 z, .int .i64 x] 60 (0, 0)) by
    have := heap_alloc_new (w.alloc (.cells #[.int .i64 z, .int .i64 x] 60)) (.cells #[.int .i64 z, .int .i64 x] 60)
    rw [World.size_alloc] at this
    exact this)
  go_upto_region 1 with fail
  go_cut [] (fun wx => ∃ b cap, PuI w wx hb b cap ob Z n x n S (putF f n x))
  case first =>
    go_region_law (first
      | (refine step_append_lies _ (by rfl) _ _ _ (by rfl) (hb + 1) 60 i0 _ 2 16 Try.underlying54 hi0 hz0 hz1 hz2 rfl (by omega) (.slice av n cv) n xs (by rfl) ((HOWN.out.alloc _).alloc _) ⟨w.heap.size + 1, 0, none⟩ 1 1 [.int .i64 z, .int .i64 x] (by rfl) (by rfl) (World.news_of_block (cs := #[.int .i64 z, .int .i64 x]) (t := 60) (fr := (0, 0)) HNEW.out) (by simp [Value.oneCell']) (by omega) (by unfold maxLen; omega) (by omega) (by simp; omega) (w.heap.size + 2) (by simp) ?_; intro g' cap' w1 hown1 hgrow hat hlt1; obtain ⟨cc1, ff1, pu⟩ := push_start HBX.out HOB.out.1 HOB.out.2 HB2.out hgrow (by rw [EZ.out]; exact hown1) hat (by omega) HXS.out.1 HXS.out.2 HS.out HX.out; have PU := Lib.hid pu; clear pu hown1 hgrow hat))
    all_goals go_wp2_with fail
    all_goals go_meet
    all_goals exact ⟨_, _, PU.out⟩
  case rest =>
    obtain ⟨b, cap, pu⟩ := hcut
    have PU := Lib.hid pu
    have c4 := one_cell pu.box
    have HLB := Lib.hid (pu.facts HOB.out.2 hlt)
    have HCAP := Lib.hid pu.cp
    clear c1 c2 c3 HB2 HNEW pu HXS HOWN HOB HBX
    go_wp2
    go_loopw [4] (fun s wr => ∃ (i : Nat) (f' : Nat → Nat), s = .int .i64 i ∧ i < n + 1 ∧ PuI w wr hb b cap ob Z n x i S f') (fun s _ => (intOf s).toNat)
    case atStart => exact ⟨n, _, rfl, by omega, PU.out⟩
    case round =>
      obtain ⟨i, f', rfl, hi, pu⟩ := hrel
      clear c4 PU
      have P1 := Lib.hid pu
      have c4 := one_cell pu.box
      obtain ⟨hnc, hcm⟩ := HCAP.out
      have hcm' : cap ≤ 9223372036854775807 := by unfold maxLen at hcm; omega
      have hrw := pu.row
      clear pu
      by_cases h0 : 0 < i
      · obtain ⟨u, eu⟩ : ∃ u, (i - 1) / 2 = u := ⟨_, rfl⟩
        have EU := Lib.hid eu
        have e1 : ((i : Int) - 1) / 2 = (u : Int) := by omega
        obtain ⟨a1, a2, a3, a4⟩ := hrw.at hnc hi
        obtain ⟨b1, b2, b3, b4⟩ := hrw.at (k := u) hnc (by omega)
        have hi' : (i : Int) < (n : Int) + 1 := by omega
        have hu' : (u : Int) < (n : Int) + 1 := by omega
        have h0' : (0 : Int) < i := by omega
        have HAB := Lib.hid (fun U => show Calls Try.prog 72 #[.agg #[.int .i64 (Z (f' i)), .int .i64 (f' i)], .agg #[.int .i64 (Z (f' u)), .int .i64 (f' u)]] U (BlPost (hiB Z (f' i) (f' u)) U) from above_any _ _ _ _ U)
        obtain ⟨t, et⟩ : ∃ t, hiB Z (f' i) (f' u) = t := ⟨_, rfl⟩
        have ET := Lib.hid et
        rw [et] at HAB
        have PSW := Lib.hid (fun (W : World) (hW : PuI w W hb b cap ob Z n x i S f') (e : t = true) => hW.swap HLB.out h0 hi (by rw [eu, et, e]) eu)
        have PDN := Lib.hid (fun (W : World) (hW : PuI w W hb b cap ob Z n x i S f') (e : t = false) => hW.done HLB.out hnc hcm (Or.inr (by rw [eu, et, e])))
        have PAT := Lib.hid (fun (W : World) (hW : PuI w W hb b cap ob Z n x i S f') => And.intro (hW.row.at hnc hi) (And.intro (hW.row.at (k := u) hnc (by omega)) (one_cell hW.box)))
        obtain ⟨zi, ezi⟩ : ∃ z, Z (f' i) = z := ⟨_, rfl⟩
        obtain ⟨zu, ezu⟩ : ∃ z, Z (f' u) = z := ⟨_, rfl⟩
        rw [ezi] at a1 PSW PAT HAB
        rw [ezu] at b1 PSW PAT HAB
        obtain ⟨p, ep⟩ : ∃ z, f' i = z := ⟨_, rfl⟩
        obtain ⟨q, eq⟩ : ∃ z, f' u = z := ⟨_, rfl⟩
        rw [ep] at a2 PSW PAT HAB
        rw [eq] at b2 PSW PAT HAB
        have HU := Lib.hid (show u < i by omega)
        clear eu et ezi ezu ep eq hrw a3 a4 b3 b4 hcm
        have hm := Try.methodAbove
        go_wp2_with fail
        go_still_tail 15, (by kernel_rfl)
        change wpList _ _ _ _ _ wr.drew
        go_wp2_with fail
        refine (HAB.out _).mono ?_
        rintro e w2 ⟨rfl, hb2⟩
        have P2 := Lib.hid (P1.out.below hb2.undrew)
        clear a1 a2 b1 b2 c4 hb2 hm
        cases t
        case false =>
          go_wp2
          first | go_end0 | refine bodyPost_ret (results_none rfl _ _ _) rfl ?_
          exact ⟨⟨_, rfl⟩, PDN.out _ P2.out (by trivial)⟩
        case true =>
          obtain ⟨⟨a1, a2, a3, a4⟩, ⟨b1, b2, b3, b4⟩, c4⟩ := PAT.out _ P2.out
          go_wp2_with fail
          go_region
          go_wp2
          go_roundw
          case rel => exact ⟨u, _, by go_num, by have := HU.out; omega, PSW.out _ (P2.out.drewN 1) (by trivial)⟩
          case measure => simp [intOf]; exact HU.out
      · have h0' : ¬ (0 : Int) < i := by omega
        have PDN := Lib.hid (P1.out.done HLB.out hnc hcm (Or.inl (by omega)))
        clear hrw hcm
        go_wp2
        first | go_end0 | refine bodyPost_ret (results_none rfl _ _ _) rfl ?_
        exact ⟨⟨_, rfl⟩, PDN.out⟩

end Go.Proofs.Ytlbdglhippapnab
