/- The program's heap by rank: push. -/
import Derived.Test.YtcfeckpbjdipeaaPkZ
import Derived.Test.YtcfeckpbjdipeaaPqZ
import Derived.Deep.AppendLies
import Derived.Deep.RegionLaw
import Derived.StillTailTactics
import Derived.BigRegion
import Derived.BigQuiet
namespace Go.Proofs.Ytcfeckpbjdipeaa
open Go.RowKit
set_option linter.unusedVariables false

/-- block b holds, up to cap places, the cells f 0 .. f (n - 1) with their heights -/
def HpR (W : World) (b cap : Nat) (Z : Nat → Int) (f : Nat → Nat) (n : Nat) : Prop :=
  ∃ F : Nat → Value, W.rowIs b 93 (cap * 2) F ∧ ∀ k, k < n → F (k * 2) = .int .i64 (Z (f k)) ∧ F (k * 2 + 1) = .int .i64 (f k)
theorem HpR.lt {W : World} {b cap : Nat} {Z : Nat → Int} {f : Nat → Nat} {n : Nat} (h : HpR W b cap Z f n) : b < W.heap.size := by obtain ⟨F, h1, _⟩ := h; exact h1.lt
theorem HpR.keep {W W' : World} {b cap : Nat} {Z : Nat → Int} {f : Nat → Nat} {n : Nat} (h : HpR W b cap Z f n) (hb : W'.heap[b]? = W.heap[b]?) : HpR W' b cap Z f n := by
  obtain ⟨F, h1, h2⟩ := h
  exact ⟨F, h1.of_block hb, h2⟩
theorem HpR.at {W : World} {b cap : Nat} {Z : Nat → Int} {f : Nat → Nat} {n k : Nat} (h : HpR W b cap Z f n) (hn : n ≤ cap) (hk : k < n) :
    W.cell? ⟨b, k * 2, none⟩ = some (.int .i64 (Z (f k))) ∧ W.cell? ⟨b, k * 2 + 1, none⟩ = some (.int .i64 (f k)) ∧ W.frozen? ⟨b, k * 2, none⟩ = false ∧ W.frozen? ⟨b, k * 2 + 1, none⟩ = false := by
  obtain ⟨F, h1, h2⟩ := h
  obtain ⟨a1, a2⟩ := h2 k hk
  have c1 := h1.cell (i := k * 2) (by omega)
  have c2 := h1.cell (i := k * 2 + 1) (by omega)
  rw [a1] at c1
  rw [a2] at c2
  exact ⟨c1, c2, h1.frozen _, h1.frozen _⟩
theorem HpR.congr {W : World} {b cap : Nat} {Z : Nat → Int} {f g : Nat → Nat} {n : Nat} (h : HpR W b cap Z f n) (e : ∀ k, k < n → f k = g k) : HpR W b cap Z g n := by
  obtain ⟨F, h1, h2⟩ := h
  exact ⟨F, h1, fun k hk => by rw [← e k hk]; exact h2 k hk⟩
theorem HpR.less {W : World} {b cap : Nat} {Z : Nat → Int} {f : Nat → Nat} {n m : Nat} (h : HpR W b cap Z f n) (hm : m ≤ n) : HpR W b cap Z f m := by
  obtain ⟨F, h1, h2⟩ := h
  exact ⟨F, h1, fun k hk => h2 k (by omega)⟩
/-- one place is written -/
theorem HpR.put {W : World} {b cap : Nat} {Z : Nat → Int} {f g : Nat → Nat} {n i x : Nat} (h : HpR W b cap Z f n) (e : ∀ k, k < n → g k = if k = i then x else f k) :
    HpR ((W.setCell ⟨b, i * 2, none⟩ (.int .i64 (Z x))).setCell ⟨b, i * 2 + 1, none⟩ (.int .i64 x)) b cap Z g n := by
  obtain ⟨F, h1, h2⟩ := h
  refine ⟨_, (h1.set (i * 2) (.int .i64 (Z x))).set (i * 2 + 1) (.int .i64 x), fun k hk => ?_⟩
  rw [e k hk]
  by_cases h3 : k = i
  · subst h3
    simp
  · have e1 : k * 2 ≠ i * 2 + 1 := by omega
    have e2 : k * 2 ≠ i * 2 := by omega
    have e3 : k * 2 + 1 ≠ i * 2 + 1 := by omega
    have e4 : k * 2 + 1 ≠ i * 2 := by omega
    simp only [if_neg h3, if_neg e1, if_neg e2, if_neg e3, if_neg e4]
    exact h2 k hk
theorem HpR.swap {W : World} {b cap : Nat} {Z : Nat → Int} {f : Nat → Nat} {n i j : Nat} (h : HpR W b cap Z f n) (hij : i ≠ j) :
    HpR ((((W.setCell ⟨b, i * 2, none⟩ (.int .i64 (Z (f j)))).setCell ⟨b, i * 2 + 1, none⟩ (.int .i64 (f j))).setCell ⟨b, j * 2, none⟩ (.int .i64 (Z (f i)))).setCell ⟨b, j * 2 + 1, none⟩ (.int .i64 (f i))) b cap Z (swp f i j) n := by
  refine (h.put (g := fun k => if k = i then f j else f k) (fun k _ => rfl)).put (fun k hk => ?_)
  unfold swp
  by_cases h1 : k = i
  · have h2 : k ≠ j := fun e => hij (h1.symm.trans e)
    rw [if_pos h1, if_neg h2, if_pos h1]
  · rw [if_neg h1]
    by_cases h2 : k = j
    · rw [if_pos h2, if_pos h2]
    · rw [if_neg h2, if_neg h2, if_neg h1]

theorem HpR.own {W : World} {b cap : Nat} {Z : Nat → Int} {f : Nat → Nat} {n B : Nat} (h : HpR W b cap Z f n) (hn : n ≤ cap) (hc : cap ≤ maxLen) (hB : B ≤ b) :
    ∃ xs, W.ownsRow B 93 2 (.slice (some ⟨b, 0, none⟩) n cap) n xs ∧ ∀ k, k < n → xs[k * 2]? = some (.int .i64 (Z (f k))) ∧ xs[k * 2 + 1]? = some (.int .i64 (f k)) := by
  obtain ⟨F, ⟨cs, h0, h1, h2⟩, h3⟩ := h
  have hs : n * 2 ≤ cs.size := by omega
  refine ⟨cs.toList.take (n * 2), ⟨by simp; omega, Or.inr ⟨b, cap, cs, rfl, hB, h0, hn, hc, h1, rfl⟩⟩, fun k hk => ?_⟩
  obtain ⟨a1, a2⟩ := h3 k hk
  rw [List.getElem?_take_of_lt (by omega), List.getElem?_take_of_lt (by omega), Array.getElem?_toList, Array.getElem?_toList, h2 _ (by omega), h2 _ (by omega), a1, a2]
  exact ⟨rfl, rfl⟩
theorem own_hpR {W : World} {B m n cap b : Nat} {xs : List Value} {Z : Nat → Int} {f : Nat → Nat} (h : W.ownsRow B 93 2 (.slice (some ⟨b, 0, none⟩) m cap) n xs) (hx : ∀ k, k < n → xs[k * 2]? = some (.int .i64 (Z (f k))) ∧ xs[k * 2 + 1]? = some (.int .i64 (f k))) :
    B ≤ b ∧ m = n ∧ n ≤ cap ∧ cap ≤ maxLen ∧ HpR W b cap Z f n := by
  obtain ⟨hlen, ⟨e, h0⟩ | ⟨b', cap', cur, e, hB, hb, hc, hcap, hcs, ht⟩⟩ := h
  · cases e
  · simp only [Value.slice.injEq, Option.some.injEq, Addr.mk.injEq, and_true] at e
    obtain ⟨rfl, rfl, rfl⟩ := e
    refine ⟨hB, rfl, hc, hcap, fun i => cur[i]?.getD (.int .i64 0), ⟨cur, hb, hcs, fun i hi => ?_⟩, fun k hk => ?_⟩
    · have hi' : i < cur.size := by omega
      simp [hi']
    · obtain ⟨a1, a2⟩ := hx k hk
      rw [← ht, List.getElem?_take_of_lt (by omega), Array.getElem?_toList] at a1 a2
      simp [a1, a2]

/-- block hb is a heap whose places, in block ob, hold f 0 .. f (n - 1) -/
def HpW (W : World) (hb : Nat) (ob : Option Nat) (Z : Nat → Int) (f : Nat → Nat) (n : Nat) : Prop :=
  ∃ v, W.heap[hb]? = some (.cells #[v] 90 (0, 0)) ∧
    ((v = .slice none 0 0 ∧ n = 0 ∧ ob = none) ∨ ∃ b cap, v = .slice (some ⟨b, 0, none⟩) n cap ∧ ob = some b ∧ hb < b ∧ n ≤ cap ∧ cap ≤ maxLen ∧ HpR W b cap Z f n)
/-- what is neither the heap nor its places stays -/
structure HpFr (hb : Nat) (ob : Option Nat) (w w' : World) : Prop where
  os : w'.os = w.os
  tape : w'.tape = w.tape
  output : w'.output = w.output
  size : w.heap.size ≤ w'.heap.size
  block : ∀ k, k < w.heap.size → k ≠ hb → some k ≠ ob → w'.heap[k]? = w.heap[k]?
/-- the places of old, or new ones -/
def NewOb (N : Nat) (ob ob' : Option Nat) : Prop := ob' = ob ∨ ∃ b, ob' = some b ∧ N ≤ b
theorem HpFr.refl (hb : Nat) (ob : Option Nat) (w : World) : HpFr hb ob w w := ⟨rfl, rfl, rfl, Nat.le_refl _, fun _ _ _ _ => rfl⟩
theorem HpFr.trans {hb : Nat} {ob ob' : Option Nat} {a b c : World} (h : HpFr hb ob a b) (h2 : HpFr hb ob' b c) (hn : NewOb a.heap.size ob ob') : HpFr hb ob a c := by
  refine ⟨h2.os.trans h.os, h2.tape.trans h.tape, h2.output.trans h.output, Nat.le_trans h.size h2.size, fun k h0 h1 h3 => ?_⟩
  refine (h2.block k (by have := h.size; omega) h1 ?_).trans (h.block k h0 h1 h3)
  rcases hn with e | ⟨b', e, hb'⟩
  · rw [e]; exact h3
  · rw [e]; intro e2; simp only [Option.some.injEq] at e2; omega
theorem HpFr.ofBelow {hb B : Nat} {ob : Option Nat} {w w' : World} (h : Below B w w') (hB : w.heap.size ≤ B) : HpFr hb ob w w' := ⟨h.os, h.tape, h.output, h.size, fun k h0 _ _ => h.block k (by omega)⟩
theorem HpFr.below {hb B : Nat} {ob : Option Nat} {w w' : World} (h : HpFr hb ob w w') (hB : B ≤ w.heap.size) (h1 : B ≤ hb) (h2 : ∀ b, ob = some b → B ≤ b) : Below B w w' :=
  ⟨h.os, h.tape, h.output, h.size, fun k hk => h.block k (by omega) (by omega) (fun e => by have := h2 k e.symm; omega)⟩

theorem Try.infoSp : (Try.prog.info? 93).map (fun i => (i.zero, i.size, i.bytes)) = some (some (.agg #[.int .i64 0, .int .i64 0]), 2, 16) := by kernel_rfl

theorem Try.methodAbove (n : Nat) (p q : Int) (W : World) : Sem.run Try.prog (method (n + 1) 93 (.agg #[.int .i64 p, .int .i64 q]) "loop.example/reliefmaps/impl.above") W = .ok (107, .agg #[.int .i64 p, .int .i64 q]) W := by kernel_rfl

/-- what a push leaves -/
def PushPost (hb : Nat) (ob : Option Nat) (Z : Nat → Int) (n x : Nat) (S : Nat → Prop) (w : World) (e : Ending) (w' : World) : Prop :=
  (∃ v, e = .returned v) ∧ ∃ f' ob', HpW w' hb ob' Z f' (n + 1) ∧ HpS Z f' (n + 1) (fun y => S y ∨ y = x) ∧ NewOb w.heap.size ob ob' ∧ HpFr hb ob w w'

/-- the state of push's loop -/
structure PuI (w wr : World) (hb b cap : Nat) (ob : Option Nat) (Z : Nat → Int) (n x i : Nat) (S : Nat → Prop) (f : Nat → Nat) : Prop where
  up : UpOk Z f (n + 1) i
  inj : InjN f (n + 1)
  mem : ∀ y, (S y ∨ y = x) ↔ InN f (n + 1) y
  box : wr.heap[hb]? = some (.cells #[.slice (some ⟨b, 0, none⟩) (n + 1) cap] 90 (0, 0))
  row : HpR wr b cap Z f (n + 1)
  new : NewOb w.heap.size ob (some b)
  fr : HpFr hb ob w wr
  cp : n + 1 ≤ cap ∧ cap ≤ maxLen

theorem push_start {w w2 w1 : World} {hb g' cap' n x H : Nat} {ob : Option Nat} {v : Value} {Z : Nat → Int} {f : Nat → Nat} {S : Nat → Prop} {xs : List Value} (hbx : w.heap[hb]? = some (.cells #[v] 90 (0, 0))) (hv : v.ownBlock = ob)
    (hob : ∀ k, ob = some k → hb < k) (hb2 : Below w.heap.size w w2) (hg : w2.grownBy w1 v.ownBlock) (hown : w1.ownsRow (hb + 1) 93 2 (.slice (some ⟨g', 0, none⟩) (n + 1) cap') (n + 1) (xs ++ [.int .i64 (Z x), .int .i64 x]))
    (hat : v.ownBlock = some g' ∨ g' = H) (hH : w.heap.size ≤ H) (hlen : xs.length = n * 2) (hxs : ∀ k, k < n → xs[k * 2]? = some (.int .i64 (Z (f k))) ∧ xs[k * 2 + 1]? = some (.int .i64 (f k))) (hS : HpS Z f n S) (hx : ¬ S x) :
    w1.cell? ⟨hb, 0, none⟩ = some v ∧ w1.frozen? ⟨hb, 0, none⟩ = false ∧ PuI w (w1.setCell ⟨hb, 0, none⟩ (.slice (some ⟨g', 0, none⟩) (n + 1) cap')) hb g' cap' ob Z n x n S (putF f n x) := by
  have hlt : hb < w.heap.size := (Array.getElem?_eq_some_iff.1 hbx).1
  have e1 : w1.heap[hb]? = some (.cells #[v] 90 (0, 0)) := by
    rw [hg.block hb (by have := hb2.size; omega) (fun e => by have := hob hb (hv.symm.trans e.symm); omega), hb2.block hb hlt, hbx]
  obtain ⟨o1, _, o3, o4, o5⟩ := own_hpR (Z := Z) (f := putF f n x) hown (fun k hk => by
    by_cases h : k = n
    · subst h
      rw [putF_at, List.getElem?_append_right (by omega), List.getElem?_append_right (by omega), hlen]
      simp
    · rw [putF_lt (show k < n by omega), List.getElem?_append_left (by omega), List.getElem?_append_left (by omega)]
      exact hxs k (by omega))
  refine ⟨one_cell e1, by simp [World.frozen?, e1], upOk_put x hS.ok, putF_inj hS.inj (fun h => hx ((hS.mem x).2 h)), fun y => by rw [putF_in, hS.mem], ?_, o5.keep (Below.heap_setCell _ _ _ _ (by simp; omega)), ?_, ?_, o3, o4⟩
  · have := heap_setCell_same w1 hb 0 #[v] _ (.slice (some ⟨g', 0, none⟩) (n + 1) cap') e1
    simpa using this
  · rcases hat with e | e
    · exact Or.inl (by rw [← hv, e])
    · exact Or.inr ⟨g', rfl, by omega⟩
  · refine ⟨hg.os.trans hb2.os, hg.tape.trans hb2.tape, hg.output.trans hb2.output, ?_, fun k h0 h1 h2 => ?_⟩
    · have := hg.size; have := hb2.size; simp [World.setCell]; omega
    · rw [Below.heap_setCell _ _ _ _ (by simpa using h1), hg.block k (by have := hb2.size; omega) (by rw [hv]; exact h2), hb2.block k h0]

theorem PuI.drewN {w wr : World} {hb b cap n x i : Nat} {ob : Option Nat} {Z : Nat → Int} {S : Nat → Prop} {f : Nat → Nat} (h : PuI w wr hb b cap ob Z n x i S f) (k : Nat) : PuI w (wr.drewN k) hb b cap ob Z n x i S f :=
  ⟨h.up, h.inj, h.mem, h.box, h.row.keep rfl, h.new, ⟨h.fr.os, h.fr.tape, h.fr.output, h.fr.size, h.fr.block⟩, h.cp⟩

theorem PuI.facts {w wr : World} {hb b cap n x i : Nat} {ob : Option Nat} {Z : Nat → Int} {S : Nat → Prop} {f : Nat → Nat} (h : PuI w wr hb b cap ob Z n x i S f) (hob : ∀ k, ob = some k → hb < k) (hl : hb < w.heap.size) : hb < b := by
  rcases h.new with e | ⟨b', e, hb'⟩
  · exact hob b e.symm
  · simp only [Option.some.injEq] at e; omega
theorem PuI.below {w wr w2 : World} {hb b cap n x i : Nat} {ob : Option Nat} {Z : Nat → Int} {S : Nat → Prop} {f : Nat → Nat} (h : PuI w wr hb b cap ob Z n x i S f) (hb2 : Below wr.heap.size wr w2) : PuI w w2 hb b cap ob Z n x i S f :=
  ⟨h.up, h.inj, h.mem, (hb2.block hb (Array.getElem?_eq_some_iff.1 h.box).1).trans h.box, h.row.keep (hb2.block b h.row.lt), h.new, h.fr.trans (HpFr.ofBelow hb2 (Nat.le_refl _)) h.new, h.cp⟩
theorem PuI.done {w wr : World} {hb b cap n x i : Nat} {ob : Option Nat} {Z : Nat → Int} {S : Nat → Prop} {f : Nat → Nat} (h : PuI w wr hb b cap ob Z n x i S f) (hl : hb < b) (hc : n + 1 ≤ cap) (hm : cap ≤ maxLen) (hi : i = 0 ∨ hiB Z (f i) (f ((i - 1) / 2)) = false) :
    ∃ f' ob', HpW wr hb ob' Z f' (n + 1) ∧ HpS Z f' (n + 1) (fun y => S y ∨ y = x) ∧ NewOb w.heap.size ob ob' ∧ HpFr hb ob w wr :=
  ⟨f, some b, ⟨_, h.box, Or.inr ⟨b, cap, rfl, rfl, hl, hc, hm, h.row⟩⟩, ⟨upOk_end h.up hi, h.inj, h.mem⟩, h.new, h.fr⟩
theorem HpFr.setCell {hb : Nat} {ob : Option Nat} {w wr : World} (h : HpFr hb ob w wr) {b c : Nat} (hn : NewOb w.heap.size ob (some b)) (u : Value) : HpFr hb ob w (wr.setCell ⟨b, c, none⟩ u) := by
  refine ⟨h.os, h.tape, h.output, by simpa [World.setCell] using h.size, fun k h0 h1 h2 => ?_⟩
  rw [Below.heap_setCell _ _ _ _ (fun e => ?_), h.block k h0 h1 h2]
  rcases hn with e2 | ⟨b', e2, hb'⟩
  · exact h2 (by rw [← e2]; exact congrArg some e)
  · simp only [Option.some.injEq] at e2
    have : k = b := e
    omega
theorem PuI.swap {w wr : World} {hb b cap n x i : Nat} {ob : Option Nat} {Z : Nat → Int} {S : Nat → Prop} {f : Nat → Nat} (h : PuI w wr hb b cap ob Z n x i S f) (hl : hb < b) (h0 : 0 < i) (hi : i < n + 1) (ht : hiB Z (f i) (f ((i - 1) / 2)) = true) {u : Nat} (eu : (i - 1) / 2 = u) :
    PuI w ((((wr.setCell ⟨b, i * 2, none⟩ (.int .i64 (Z (f u)))).setCell ⟨b, i * 2 + 1, none⟩ (.int .i64 (f u))).setCell ⟨b, u * 2, none⟩ (.int .i64 (Z (f i)))).setCell ⟨b, u * 2 + 1, none⟩ (.int .i64 (f i))) hb b cap ob Z n x u S (swp f i u) := by
  subst eu
  refine ⟨upOk_step h.up h0 hi ht, injN_swp hi (by omega) h.inj, fun y => by rw [inN_swp hi (by omega), h.mem], ?_, h.row.swap (by omega), h.new, (((h.fr.setCell h.new _).setCell h.new _).setCell h.new _).setCell h.new _, h.cp⟩
  have hne : hb ≠ b := by omega
  rw [Below.heap_setCell _ _ _ _ (by simpa using hne), Below.heap_setCell _ _ _ _ (by simpa using hne), Below.heap_setCell _ _ _ _ (by simpa using hne), Below.heap_setCell _ _ _ _ (by simpa using hne), h.box]

set_option maxHeartbeats 4000000 in
set_option maxRecDepth 100000 in
theorem push_any (hb : Nat) (ob : Option Nat) (Z : Nat → Int) (f : Nat → Nat) (n x : Nat) (S : Nat → Prop) (w : World) (h : HpW w hb ob Z f n) (hS : HpS Z f n S) (hx : ¬ S x) (hn : n ≤ 1000) (hx1 : x ≤ 1000) :
    Calls Try.prog 100 #[.pointer (some ⟨hb, 0, none⟩), .agg #[.int .i64 (Z x), .int .i64 x]] w (PushPost hb ob Z n x S w) := by
  obtain ⟨i0, hi0, hz0, hz1, hz2⟩ := info_parts Try.infoSp
  obtain ⟨v, hbx, hrow⟩ := h
  have hlt : hb < w.heap.size := (Array.getElem?_eq_some_iff.1 hbx).1
  have HBX := Lib.hid hbx
  have c1 := one_cell ((Below.heap_alloc w (.cells #[.int .i64 (Z x), .int .i64 x] 93) hb hlt).trans hbx)
  have HZX := Lib.hid (show ∃ z, Z x = z from ⟨_, rfl⟩)
  obtain ⟨z, ez⟩ := HZX.out
  have EZ := Lib.hid ez
  rw [ez] at c1 ⊢
  obtain ⟨c2, c3, _, _⟩ := cells2P (heap_alloc_new w (.cells #[.int .i64 z, .int .i64 x] 93))
  have hob : v.ownBlock = ob ∧ ∀ k, ob = some k → hb < k := by
    rcases hrow with ⟨rfl, _, rfl⟩ | ⟨b, cap, rfl, rfl, h1, _⟩
    · exact ⟨rfl, fun k e => by cases e⟩
    · exact ⟨rfl, fun k e => by cases e; exact h1⟩
  have hxs : ∃ xs, w.ownsRow (hb + 1) 93 2 v n xs ∧ xs.length = n * 2 ∧ ∀ k, k < n → xs[k * 2]? = some (.int .i64 (Z (f k))) ∧ xs[k * 2 + 1]? = some (.int .i64 (f k)) := by
    rcases hrow with ⟨rfl, rfl, _⟩ | ⟨b, cap, rfl, _, h1, h2, h3, h4⟩
    · exact ⟨[], World.ownsRow_nil _ _ _ _, rfl, fun k hk => by omega⟩
    · obtain ⟨xs, o1, o2⟩ := h4.own h2 h3 (show hb + 1 ≤ b by omega)
      exact ⟨xs, o1, o1.1, o2⟩
  obtain ⟨xs, hown, hlen, hxs⟩ := hxs
  have HOWN := Lib.hid hown
  have HXS := Lib.hid (And.intro hlen hxs)
  have HOB := Lib.hid hob
  have HS := Lib.hid hS
  have HX := Lib.hid hx
  have hvs : ∃ a c, v = .slice a n c := by
    rcases hrow with ⟨rfl, rfl, _⟩ | ⟨b, cap, rfl, _⟩
    · exact ⟨_, _, rfl⟩
    · exact ⟨_, _, rfl⟩
  obtain ⟨av, cv, rfl⟩ := hvs
  clear hbx hrow hown hlen hxs hob hS hx ez HZX
  go_enter Try.func100, Try.ntmps100
  have HB2 := Lib.hid (show Below w.heap.size w ((w.alloc (.cells #[.int .i64 z, .int .i64 x] 93)).alloc (.cells #[.int .i64 z, .int .i64 x] 93)).drew from below_drewN (((Below.refl w.heap.size w).alloc (Nat.le_refl _) (.cells #[.int .i64 z, .int .i64 x] 93)).alloc (by simp) (.cells #[.int .i64 z, .int .i64 x] 93)) 1)
  have HNEW := Lib.hid (show ((w.alloc (.cells #[.int .i64 z, .int .i64 x] 93)).alloc (.cells #[.int .i64 z, .int .i64 x] 93)).drew.heap[w.heap.size + 1]? = some (.cells #[.int .i64 z, .int .i64 x] 93 (0, 0)) by
    have := heap_alloc_new (w.alloc (.cells #[.int .i64 z, .int .i64 x] 93)) (.cells #[.int .i64 z, .int .i64 x] 93)
    rw [World.size_alloc] at this
    exact this)
  go_upto_region 1 with fail
  go_cut [] (fun wx => ∃ b cap, PuI w wx hb b cap ob Z n x n S (putF f n x))
  case first =>
    go_region_law (first
      | (refine step_append_lies _ (by rfl) _ _ _ (by rfl) (hb + 1) 93 i0 _ 2 16 Try.underlying88 hi0 hz0 hz1 hz2 rfl (by omega) (.slice av n cv) n xs (by rfl) ((HOWN.out.alloc _).alloc _) ⟨w.heap.size + 1, 0, none⟩ 1 1 [.int .i64 z, .int .i64 x] (by rfl) (by rfl) (World.news_of_block (cs := #[.int .i64 z, .int .i64 x]) (t := 93) (fr := (0, 0)) HNEW.out) (by simp [Value.oneCell']) (by omega) (by unfold maxLen; omega) (by omega) (by simp; omega) (w.heap.size + 2) (by simp) ?_; intro g' cap' w1 hown1 hgrow hat hlt1; obtain ⟨cc1, ff1, pu⟩ := push_start HBX.out HOB.out.1 HOB.out.2 HB2.out hgrow (by rw [EZ.out]; exact hown1) hat (by omega) HXS.out.1 HXS.out.2 HS.out HX.out; have PU := Lib.hid pu; clear pu hown1 hgrow hat))
    all_goals go_wp2_with fail
    all_goals go_meet
    all_goals exact ⟨_, _, PU.out⟩
  case rest =>
    obtain ⟨b, cap, pu⟩ := hcut
    have PU := Lib.hid pu
    have c4 := one_cell pu.box
    have HLB := Lib.hid (pu.facts HOB.out.2 hlt)
    have HCAP := Lib.hid pu.cp
    clear c1 c2 c3 HB2 HNEW pu HXS HOWN HOB HBX
    go_wp2
    go_loopw [4] (fun s wr => ∃ (i : Nat) (f' : Nat → Nat), s = .int .i64 i ∧ i < n + 1 ∧ PuI w wr hb b cap ob Z n x i S f') (fun s _ => (intOf s).toNat)
    case atStart => exact ⟨n, _, rfl, by omega, PU.out⟩
    case round =>
      obtain ⟨i, f', rfl, hi, pu⟩ := hrel
      clear c4 PU
      have P1 := Lib.hid pu
      have c4 := one_cell pu.box
      obtain ⟨hnc, hcm⟩ := HCAP.out
      have hcm' : cap ≤ 9223372036854775807 := by unfold maxLen at hcm; omega
      have hrw := pu.row
      clear pu
      by_cases h0 : 0 < i
      · obtain ⟨u, eu⟩ : ∃ u, (i - 1) / 2 = u := ⟨_, rfl⟩
        have EU := Lib.hid eu
        have e1 : ((i : Int) - 1) / 2 = (u : Int) := by omega
        obtain ⟨a1, a2, a3, a4⟩ := hrw.at hnc hi
        obtain ⟨b1, b2, b3, b4⟩ := hrw.at (k := u) hnc (by omega)
        have hi' : (i : Int) < (n : Int) + 1 := by omega
        have hu' : (u : Int) < (n : Int) + 1 := by omega
        have h0' : (0 : Int) < i := by omega
        have HAB := Lib.hid (fun U => show Calls Try.prog 107 #[.agg #[.int .i64 (Z (f' i)), .int .i64 (f' i)], .agg #[.int .i64 (Z (f' u)), .int .i64 (f' u)]] U (BlPost (hiB Z (f' i) (f' u)) U) from above_any _ _ _ _ U)
        obtain ⟨t, et⟩ : ∃ t, hiB Z (f' i) (f' u) = t := ⟨_, rfl⟩
        have ET := Lib.hid et
        rw [et] at HAB
        have PSW := Lib.hid (fun (W : World) (hW : PuI w W hb b cap ob Z n x i S f') (e : t = true) => hW.swap HLB.out h0 hi (by rw [eu, et, e]) eu)
        have PDN := Lib.hid (fun (W : World) (hW : PuI w W hb b cap ob Z n x i S f') (e : t = false) => hW.done HLB.out hnc hcm (Or.inr (by rw [eu, et, e])))
        have PAT := Lib.hid (fun (W : World) (hW : PuI w W hb b cap ob Z n x i S f') => And.intro (hW.row.at hnc hi) (And.intro (hW.row.at (k := u) hnc (by omega)) (one_cell hW.box)))
        obtain ⟨zi, ezi⟩ : ∃ z, Z (f' i) = z := ⟨_, rfl⟩
        obtain ⟨zu, ezu⟩ : ∃ z, Z (f' u) = z := ⟨_, rfl⟩
        rw [ezi] at a1 PSW PAT HAB
        rw [ezu] at b1 PSW PAT HAB
        obtain ⟨p, ep⟩ : ∃ z, f' i = z := ⟨_, rfl⟩
        obtain ⟨q, eq⟩ : ∃ z, f' u = z := ⟨_, rfl⟩
        rw [ep] at a2 PSW PAT HAB
        rw [eq] at b2 PSW PAT HAB
        have HU := Lib.hid (show u < i by omega)
        clear eu et ezi ezu ep eq hrw a3 a4 b3 b4 hcm
        have hm := Try.methodAbove
        go_wp2_with fail
        go_still_tail 15, (by kernel_rfl)
        change wpList _ _ _ _ _ wr.drew
        go_wp2_with fail
        refine (HAB.out _).mono ?_
        rintro e w2 ⟨rfl, hb2⟩
        have P2 := Lib.hid (P1.out.below hb2.undrew)
        clear a1 a2 b1 b2 c4 hb2 hm
        cases t
        case false =>
          go_wp2
          first | go_end0 | refine bodyPost_ret (results_none rfl _ _ _) rfl ?_
          exact ⟨⟨_, rfl⟩, PDN.out _ P2.out (by trivial)⟩
        case true =>
          obtain ⟨⟨a1, a2, a3, a4⟩, ⟨b1, b2, b3, b4⟩, c4⟩ := PAT.out _ P2.out
          go_wp2_with fail
          go_region
          go_wp2
          go_roundw
          case rel => exact ⟨u, _, by go_num, by have := HU.out; omega, PSW.out _ (P2.out.drewN 1) (by trivial)⟩
          case measure => simp [intOf]; exact HU.out
      · have h0' : ¬ (0 : Int) < i := by omega
        have PDN := Lib.hid (P1.out.done HLB.out hnc hcm (Or.inl (by omega)))
        clear hrw hcm
        go_wp2
        first | go_end0 | refine bodyPost_ret (results_none rfl _ _ _) rfl ?_
        exact ⟨⟨_, rfl⟩, PDN.out⟩

end Go.Proofs.Ytcfeckpbjdipeaa

/- The program's heap by rank: settle, pop. -/
namespace Go.Proofs.Ytcfeckpbjdipeaa
open Go.RowKit
set_option linter.unusedVariables false

/-- the state of settle's loop -/
structure DnI (w wr : World) (hb b cap : Nat) (Z : Nat → Int) (n i : Nat) (S : Nat → Prop) (f : Nat → Nat) : Prop where
  dn : DnOk Z f n i
  inj : InjN f n
  mem : ∀ y, S y ↔ InN f n y
  box : wr.heap[hb]? = some (.cells #[.slice (some ⟨b, 0, none⟩) n cap] 90 (0, 0))
  row : HpR wr b cap Z f n
  fr : HpFr hb (some b) w wr
  cp : n ≤ cap ∧ cap ≤ maxLen
  hb : hb < b
theorem DnI.drewN {w wr : World} {hb b cap n i : Nat} {Z : Nat → Int} {S : Nat → Prop} {f : Nat → Nat} (h : DnI w wr hb b cap Z n i S f) (k : Nat) : DnI w (wr.drewN k) hb b cap Z n i S f :=
  ⟨h.dn, h.inj, h.mem, h.box, h.row.keep rfl, ⟨h.fr.os, h.fr.tape, h.fr.output, h.fr.size, h.fr.block⟩, h.cp, h.hb⟩
theorem DnI.below {w wr w2 : World} {hb b cap n i : Nat} {Z : Nat → Int} {S : Nat → Prop} {f : Nat → Nat} (h : DnI w wr hb b cap Z n i S f) (hb2 : Below wr.heap.size wr w2) : DnI w w2 hb b cap Z n i S f :=
  ⟨h.dn, h.inj, h.mem, (hb2.block hb (Array.getElem?_eq_some_iff.1 h.box).1).trans h.box, h.row.keep (hb2.block b h.row.lt), h.fr.trans (HpFr.ofBelow hb2 (Nat.le_refl _)) (Or.inl rfl), h.cp, h.hb⟩
/-- what settle leaves -/
def StPost (hb b : Nat) (Z : Nat → Int) (n : Nat) (S : Nat → Prop) (w w' : World) : Prop := ∃ f', HpW w' hb (some b) Z f' n ∧ HpS Z f' n S ∧ HpFr hb (some b) w w'
theorem DnI.done {w wr : World} {hb b cap n i : Nat} {Z : Nat → Int} {S : Nat → Prop} {f : Nat → Nat} (h : DnI w wr hb b cap Z n i S f) (hi : ∀ k, (k = 2 * i + 1 ∨ k = 2 * i + 2) → k < n → hiB Z (f k) (f i) = false) : StPost hb b Z n S w wr :=
  ⟨f, ⟨_, h.box, Or.inr ⟨b, cap, rfl, rfl, h.hb, h.cp.1, h.cp.2, h.row⟩⟩, ⟨dnOk_end h.dn hi, h.inj, h.mem⟩, h.fr⟩
theorem DnI.swap {w wr : World} {hb b cap n i m : Nat} {Z : Nat → Int} {S : Nat → Prop} {f : Nat → Nat} (h : DnI w wr hb b cap Z n i S f) (hm : m = 2 * i + 1 ∨ m = 2 * i + 2) (hn : m < n) (hi : hiB Z (f m) (f i) = true)
    (hg : ∀ k, (k = 2 * i + 1 ∨ k = 2 * i + 2) → k < n → hiB Z (f k) (f m) = false) :
    DnI w ((((wr.setCell ⟨b, i * 2, none⟩ (.int .i64 (Z (f m)))).setCell ⟨b, i * 2 + 1, none⟩ (.int .i64 (f m))).setCell ⟨b, m * 2, none⟩ (.int .i64 (Z (f i)))).setCell ⟨b, m * 2 + 1, none⟩ (.int .i64 (f i))) hb b cap Z n m S (swp f i m) := by
  have hn2 : NewOb w.heap.size (some b) (some b) := Or.inl rfl
  refine ⟨dnOk_step h.dn hm hn hi hg, injN_swp (by omega) hn h.inj, fun y => by rw [inN_swp (by omega) hn, h.mem], ?_, h.row.swap (by omega), (((h.fr.setCell hn2 _).setCell hn2 _).setCell hn2 _).setCell hn2 _, h.cp, h.hb⟩
  have hne : hb ≠ b := by have := h.hb; omega
  rw [Below.heap_setCell _ _ _ _ (by simpa using hne), Below.heap_setCell _ _ _ _ (by simpa using hne), Below.heap_setCell _ _ _ _ (by simpa using hne), Below.heap_setCell _ _ _ _ (by simpa using hne), h.box]

/-- the highest of i and those of its places that lie below k -/
structure Bst (Z : Nat → Int) (f : Nat → Nat) (n i k m : Nat) : Prop where
  lo : 2 * i + 1 ≤ k
  hi : k ≤ 2 * i + 3
  is : m = i ∨ (2 * i + 1 ≤ m ∧ m < k ∧ m < n ∧ hiB Z (f m) (f i) = true)
  top : ∀ j, 2 * i + 1 ≤ j → j < k → j < n → hiB Z (f j) (f m) = false
theorem Bst.start (Z : Nat → Int) (f : Nat → Nat) (n i : Nat) : Bst Z f n i (2 * i + 1) i := ⟨Nat.le_refl _, by omega, Or.inl rfl, fun j h1 h2 => by omega⟩
theorem Bst.yes {Z : Nat → Int} {f : Nat → Nat} {n i k m : Nat} (h : Bst Z f n i k m) (hk : k ≤ 2 * i + 2) (hn : k < n) (ht : hiB Z (f k) (f m) = true) : Bst Z f n i (k + 1) k := by
  refine ⟨by have := h.lo; omega, by omega, Or.inr ⟨h.lo, by omega, hn, ?_⟩, fun j h1 h2 h3 => ?_⟩
  · rcases h.is with e | ⟨_, _, _, e⟩
    · rw [← e]; exact ht
    · exact hiB_trans ht e
  · by_cases e : j = k
    · subst e; exact hiB_irr _ _
    · exact hiB_ntrans (h.top j h1 (by omega) h3) (hiB_asymm ht)
theorem Bst.no {Z : Nat → Int} {f : Nat → Nat} {n i k m : Nat} (h : Bst Z f n i k m) (hk : k ≤ 2 * i + 2) (ht : hiB Z (f k) (f m) = false) : Bst Z f n i (k + 1) m := by
  refine ⟨by have := h.lo; omega, by omega, ?_, fun j h1 h2 h3 => ?_⟩
  · rcases h.is with e | ⟨e1, e2, e3, e⟩
    · exact Or.inl e
    · exact Or.inr ⟨e1, by omega, e3, e⟩
  · by_cases e : j = k
    · subst e; exact ht
    · exact h.top j h1 (by omega) h3
theorem Bst.all {Z : Nat → Int} {f : Nat → Nat} {n i k m : Nat} (h : Bst Z f n i k m) (hk : ¬ k ≤ 2 * i + 2 ∨ ¬ k < n) : ∀ j, (j = 2 * i + 1 ∨ j = 2 * i + 2) → j < n → hiB Z (f j) (f m) = false := fun j hj hn => h.top j (by omega) (by omega) hn

set_option maxHeartbeats 8000000 in
set_option maxRecDepth 100000 in
theorem settle_any (hb b cap : Nat) (Z : Nat → Int) (f : Nat → Nat) (n : Nat) (S : Nat → Prop) (w : World) (h : DnI w w hb b cap Z n 0 S f) (hn : n ≤ 1000) :
    Calls Try.prog 126 #[.pointer (some ⟨hb, 0, none⟩)] w (fun e w' => (∃ v, e = .returned v) ∧ StPost hb b Z n S w w') := by
  have H := Lib.hid h
  clear h
  go_enter Try.func126, Try.ntmps126
  go_wp2
  go_loopw [2] (fun s wr => ∃ (i : Nat) (f' : Nat → Nat), s = .int .i64 i ∧ i ≤ n ∧ DnI w wr hb b cap Z n i S f') (fun s _ => n - (intOf s).toNat)
  case atStart => exact ⟨0, f, rfl, Nat.zero_le _, H.out⟩
  case round =>
    obtain ⟨i, f', rfl, hi, dni⟩ := hrel
    clear H f
    have HI := Lib.hid dni
    clear dni
    go_wp2
    obtain ⟨wo, rfl⟩ : ∃ wo : World, wo = wr := ⟨_, rfl⟩
    go_loopw [3, 4] (fun s3 s4 wr => ∃ (m k : Nat), s3 = .int .i64 m ∧ s4 = .int .i64 k ∧ Bst Z f' n i k m ∧ DnI w wr hb b cap Z n i S f') (fun _ s4 _ => 2 * i + 3 - (intOf s4).toNat)
    case atStart => exact ⟨i, 2 * i + 1, rfl, by go_num, Bst.start _ _ _ _, HI.out⟩
    case round =>
      clear HI
      obtain ⟨m, k, rfl, rfl, bst, dni⟩ := hrel
      have HD := Lib.hid dni
      have HBS := Lib.hid bst
      have hk1 := bst.lo
      have hk2 := bst.hi
      have c4 := one_cell dni.box
      obtain ⟨hnc, hcm⟩ := dni.cp
      have hcm' : cap ≤ 9223372036854775807 := by unfold maxLen at hcm; omega
      have hmk : m < k := by
        rcases bst.is with e | ⟨_, e, _⟩ <;> omega
      by_cases hin : k ≤ 2 * i + 2 ∧ k < n
      · obtain ⟨h1, h2⟩ := hin
        have h1' : (k : Int) ≤ 2 * (i : Int) + 2 := by omega
        have h2' : (k : Int) < n := by omega
        have hm' : (m : Int) < n := by omega
        obtain ⟨a1, a2, a3, a4⟩ := dni.row.at hnc h2
        obtain ⟨b1, b2, b3, b4⟩ := dni.row.at (k := m) hnc (by omega)
        have HAB := Lib.hid (fun U => show Calls Try.prog 107 #[.agg #[.int .i64 (Z (f' k)), .int .i64 (f' k)], .agg #[.int .i64 (Z (f' m)), .int .i64 (f' m)]] U (BlPost (hiB Z (f' k) (f' m)) U) from above_any _ _ _ _ U)
        obtain ⟨t, et⟩ : ∃ t, hiB Z (f' k) (f' m) = t := ⟨_, rfl⟩
        rw [et] at HAB
        have BY := Lib.hid (fun (e : t = true) => bst.yes h1 h2 (et.trans e))
        have BN := Lib.hid (fun (e : t = false) => bst.no h1 (et.trans e))
        obtain ⟨zi, ezi⟩ : ∃ z, Z (f' k) = z := ⟨_, rfl⟩
        obtain ⟨zu, ezu⟩ : ∃ z, Z (f' m) = z := ⟨_, rfl⟩
        rw [ezi] at a1 HAB
        rw [ezu] at b1 HAB
        obtain ⟨p, ep⟩ : ∃ z, f' k = z := ⟨_, rfl⟩
        obtain ⟨q, eq⟩ : ∃ z, f' m = z := ⟨_, rfl⟩
        rw [ep] at a2 HAB
        rw [eq] at b2 HAB
        clear et ezi ezu ep eq a3 a4 b3 b4 hcm dni bst
        have hm := Try.methodAbove
        go_wp2_with fail
        go_still_tail 15, (by kernel_rfl)
        change wpList _ _ _ _ _ wr.drew
        go_wp2_with fail
        refine (HAB.out _).mono ?_
        rintro e w2 ⟨rfl, hb2⟩
        have P2 := Lib.hid (HD.out.below hb2.undrew)
        clear a1 a2 b1 b2 c4 hb2 hm
        cases t
        case false =>
          go_wp2
          go_roundw
          case rel => exact ⟨m, k + 1, rfl, by go_num, BN.out (by trivial), P2.out⟩
          case measure => simp [intOf]; omega
        case true =>
          go_wp2
          go_roundw
          case rel => exact ⟨k, k + 1, rfl, by go_num, BY.out (by trivial), P2.out⟩
          case measure => simp [intOf]; omega
      · have hcase : (¬ (k : Int) ≤ 2 * (i : Int) + 2) ∨ ((k : Int) ≤ 2 * (i : Int) + 2 ∧ ¬ (k : Int) < n) := by omega
        have HALL := Lib.hid (bst.all (by omega))
        have HIS := Lib.hid bst.is
        clear bst
        by_cases hmi : m = i
        · subst hmi
          have HDN := Lib.hid (dni.done HALL.out)
          clear dni hcm
          rcases hcase with h1 | ⟨h1, h2⟩
          · go_wp2
            first | go_end0 | refine bodyPost_ret (results_none rfl _ _ _) rfl ?_
            exact ⟨⟨_, rfl⟩, HDN.out⟩
          · go_wp2
            first | go_end0 | refine bodyPost_ret (results_none rfl _ _ _) rfl ?_
            exact ⟨⟨_, rfl⟩, HDN.out⟩
        · have hmi' : ((m : Int) == (i : Int)) = false := by rw [beq_eq_false_iff_ne]; omega
          obtain ⟨q1, q2, q3, q4⟩ : 2 * i + 1 ≤ m ∧ m < k ∧ m < n ∧ hiB Z (f' m) (f' i) = true := HIS.out.resolve_left hmi
          have PSW := Lib.hid (fun k => (dni.drewN k).swap (m := m) (by omega) q3 q4 HALL.out)
          obtain ⟨a1, a2, a3, a4⟩ := dni.row.at (k := i) hnc (by omega)
          obtain ⟨b1, b2, b3, b4⟩ := dni.row.at (k := m) hnc q3
          have hm' : (m : Int) < n := by omega
          have hi' : (i : Int) < n := by omega
          obtain ⟨zi, ezi⟩ : ∃ z, Z (f' i) = z := ⟨_, rfl⟩
          obtain ⟨zu, ezu⟩ : ∃ z, Z (f' m) = z := ⟨_, rfl⟩
          rw [ezi] at a1 PSW
          rw [ezu] at b1 PSW
          obtain ⟨p, ep⟩ : ∃ z, f' i = z := ⟨_, rfl⟩
          obtain ⟨q, eq⟩ : ∃ z, f' m = z := ⟨_, rfl⟩
          rw [ep] at a2 PSW
          rw [eq] at b2 PSW
          clear ezi ezu ep eq dni hcm q4 hmi
          rcases hcase with h1 | ⟨h1, h2⟩
          · go_wp2_with fail
            go_region
            go_wp2
            go_roundw
            case rel => exact ⟨m, _, by go_num, by omega, PSW.out 1⟩
            case measure => simp [intOf]; omega
          · go_wp2_with fail
            go_region
            go_wp2
            go_roundw
            case rel => exact ⟨m, _, by go_num, by omega, PSW.out 1⟩
            case measure => simp [intOf]; omega

end Go.Proofs.Ytcfeckpbjdipeaa

/- The program's heap by rank: pop. -/
namespace Go.Proofs.Ytcfeckpbjdipeaa
open Go.RowKit
set_option linter.unusedVariables false

set_option maxHeartbeats 1000000 in
set_option maxRecDepth 100000 in
theorem pop_none (hb : Nat) (ob : Option Nat) (Z : Nat → Int) (f : Nat → Nat) (w : World) (h : HpW w hb ob Z f 0) :
    Calls Try.prog 102 #[.pointer (some ⟨hb, 0, none⟩)] w (fun e w' => e = .returned (.tuple #[.agg #[.int .i64 0, .int .i64 0], .bool false]) ∧ Below w.heap.size w w') := by
  obtain ⟨v, hbx, hrow⟩ := h
  have hlt : hb < w.heap.size := (Array.getElem?_eq_some_iff.1 hbx).1
  have hvs : ∃ a c, v = .slice a 0 c := by
    rcases hrow with ⟨rfl, _, _⟩ | ⟨b, cap, rfl, _⟩
    · exact ⟨_, _, rfl⟩
    · exact ⟨_, _, rfl⟩
  obtain ⟨av, cv, rfl⟩ := hvs
  clear hrow
  obtain ⟨k1, k2, ksz, kb⟩ : let W := (w.alloc (.cells #[.int .i64 0, .int .i64 0] 93)).alloc (.cells #[.int .i64 0, .int .i64 0] 93)
      W.heap[w.heap.size]? = some (.cells #[.int .i64 0, .int .i64 0] 93 (0, 0)) ∧ W.heap[w.heap.size + 1]? = some (.cells #[.int .i64 0, .int .i64 0] 93 (0, 0)) ∧ W.heap.size = w.heap.size + 2 ∧ Below w.heap.size w W := by
    have e1 : (w.alloc (.cells #[.int .i64 0, .int .i64 0] 93)).heap.size = w.heap.size + 1 := by simp
    have b2 := fun k hk => Below.heap_alloc (w.alloc (.cells #[.int .i64 0, .int .i64 0] 93)) (.cells #[.int .i64 0, .int .i64 0] 93) k hk
    refine ⟨(b2 _ (by omega)).trans (heap_alloc_new w _), ?_, by simp, ((Below.refl _ _).alloc (Nat.le_refl _) _).alloc (by simp) _⟩
    have := heap_alloc_new (w.alloc (.cells #[.int .i64 0, .int .i64 0] 93)) (.cells #[.int .i64 0, .int .i64 0] 93)
    rw [e1] at this
    exact this
  have c0 := one_cell ((Below.heap_alloc w (.cells #[.int .i64 0, .int .i64 0] 93) hb hlt).trans hbx)
  obtain ⟨c1, c2, f1, f2⟩ := cells2P k1
  obtain ⟨c3, c4, _, _⟩ := cells2P k2
  have HE := Lib.hid k1
  have HB := Lib.hid kb
  clear k1 k2 ksz kb hbx
  go_enter Try.func102, Try.ntmps102
  go_wp2
  exact bodyPost_ret (results_cell_row_tmp rfl _ _ w.heap.size _ #[.int .i64 0, .int .i64 0] _ _ rfl HE.out Try.underlying93 rfl Try.sizeSpot (.bool false) rfl) rfl ⟨rfl, HB.out⟩

/-- what a pop leaves where something is left -/
def PopPost (hb : Nat) (ob : Option Nat) (Z : Nat → Int) (n : Nat) (S : Nat → Prop) (w : World) (e : Ending) (w' : World) : Prop :=
  ∃ x f', e = .returned (.tuple #[.agg #[.int .i64 (Z x), .int .i64 x], .bool true]) ∧ S x ∧ (∀ y, S y → hiB Z y x = false) ∧ HpW w' hb ob Z f' n ∧ HpS Z f' n (fun y => S y ∧ y ≠ x) ∧ HpFr hb ob w w'

theorem pop_mid {w wr : World} {hb b cap n x : Nat} {Z : Nat → Int} {S : Nat → Prop} {f : Nat → Nat} (hS : HpS Z f (n + 1) S) (hbx : wr.heap[hb]? = some (.cells #[.slice (some ⟨b, 0, none⟩) (n + 1) cap] 90 (0, 0))) (hrow : HpR wr b cap Z f (n + 1)) (hlb : hb < b) (hcp : n + 1 ≤ cap ∧ cap ≤ maxLen) (hx : f n = x) {z : Int} (hz : Z x = z) :
    DnI (((wr.setCell ⟨b, 0, none⟩ (.int .i64 z)).setCell ⟨b, 1, none⟩ (.int .i64 x)).setCell ⟨hb, 0, none⟩ (.slice (some ⟨b, 0, none⟩) n cap)) (((wr.setCell ⟨b, 0, none⟩ (.int .i64 z)).setCell ⟨b, 1, none⟩ (.int .i64 x)).setCell ⟨hb, 0, none⟩ (.slice (some ⟨b, 0, none⟩) n cap)) hb b cap Z n 0 (fun y => S y ∧ y ≠ f 0) (topF f n) := by
  subst hz
  have h1 : ((wr.setCell ⟨b, 0, none⟩ (.int .i64 (Z x))).setCell ⟨b, 1, none⟩ (.int .i64 x)).heap[hb]? = some (.cells #[.slice (some ⟨b, 0, none⟩) (n + 1) cap] 90 (0, 0)) := by
    rw [Below.heap_setCell _ _ _ _ (by simp; omega), Below.heap_setCell _ _ _ _ (by simp; omega), hbx]
  have h2 : HpR ((wr.setCell ⟨b, 0, none⟩ (.int .i64 (Z x))).setCell ⟨b, 1, none⟩ (.int .i64 x)) b cap Z (topF f n) n := by
    have := (hrow.less (Nat.le_succ n)).put (i := 0) (x := x) (g := topF f n) (fun k hk => by unfold topF; rw [hx])
    simpa using this
  refine ⟨dnOk_top hS.ok, topF_inj hS.inj, fun y => by rw [topF_in hS.inj, ← hS.mem], ?_, h2.keep (Below.heap_setCell _ _ _ _ (by simp; omega)), HpFr.refl _ _ _, ⟨by omega, hcp.2⟩, hlb⟩
  have := heap_setCell_same _ hb 0 _ _ (.slice (some ⟨b, 0, none⟩) n cap) h1
  simpa using this

theorem hpFr_pop {w wr : World} {hb b : Nat} {u v x : Value} (h : HpFr hb (some b) w wr) : HpFr hb (some b) w (((wr.setCell ⟨b, 0, none⟩ u).setCell ⟨b, 1, none⟩ v).setCell ⟨hb, 0, none⟩ x) := by
  have h2 := (h.setCell (b := b) (c := 0) (Or.inl rfl) u).setCell (b := b) (c := 1) (Or.inl rfl) v
  refine ⟨h2.os, h2.tape, h2.output, by simpa [World.setCell] using h2.size, fun k h0 h1 h3 => ?_⟩
  rw [Below.heap_setCell _ _ _ _ (by simpa using h1), h2.block k h0 h1 h3]

theorem HpW.keep {W W' : World} {hb : Nat} {ob : Option Nat} {Z : Nat → Int} {f : Nat → Nat} {n : Nat} (h : HpW W hb ob Z f n) (h1 : W'.heap[hb]? = W.heap[hb]?) (h2 : ∀ b, ob = some b → W'.heap[b]? = W.heap[b]?) : HpW W' hb ob Z f n := by
  obtain ⟨v, a1, a2⟩ := h
  refine ⟨v, h1.trans a1, ?_⟩
  rcases a2 with a2 | ⟨b, cap, e1, e2, e3, e4, e5, e6⟩
  · exact Or.inl a2
  · exact Or.inr ⟨b, cap, e1, e2, e3, e4, e5, e6.keep (h2 b e2)⟩
theorem hpS_eq {Z : Nat → Int} {f : Nat → Nat} {n : Nat} {S T : Nat → Prop} (h : HpS Z f n S) (e : ∀ y, S y ↔ T y) : HpS Z f n T := ⟨h.ok, h.inj, fun y => (e y).symm.trans (h.mem y)⟩

set_option maxHeartbeats 4000000 in
set_option maxRecDepth 100000 in
theorem pop_any (hb : Nat) (ob : Option Nat) (Z : Nat → Int) (f : Nat → Nat) (n : Nat) (S : Nat → Prop) (w : World) (h : HpW w hb ob Z f (n + 1)) (hS : HpS Z f (n + 1) S) (hn : n ≤ 999) :
    Calls Try.prog 102 #[.pointer (some ⟨hb, 0, none⟩)] w (PopPost hb ob Z n S w) := by
  obtain ⟨v, hbx, hrow⟩ := h
  rcases hrow with ⟨_, h, _⟩ | ⟨b, cap, rfl, rfl, hlb, hc, hm, hr⟩
  · omega
  have hlt : hb < w.heap.size := (Array.getElem?_eq_some_iff.1 hbx).1
  have hltb := hr.lt
  have HR := Lib.hid hr
  have HS := Lib.hid hS
  have HBX := Lib.hid hbx
  have HTOP := Lib.hid (show S (f 0) ∧ ∀ y, S y → hiB Z y (f 0) = false from ⟨(hS.mem _).2 ⟨0, by omega, rfl⟩, fun y hy => hpOk_in hS.ok ((hS.mem y).1 hy)⟩)
  obtain ⟨x, ex⟩ : ∃ x, f 0 = x := ⟨_, rfl⟩
  have EX := Lib.hid ex
  obtain ⟨y, ey⟩ : ∃ y, f n = y := ⟨_, rfl⟩
  have EY := Lib.hid ey
  obtain ⟨zx, ezx⟩ : ∃ z, Z x = z := ⟨_, rfl⟩
  have EZX := Lib.hid ezx
  obtain ⟨zy, ezy⟩ : ∃ z, Z y = z := ⟨_, rfl⟩
  have EZY := Lib.hid ezy
  have hm' : cap ≤ 9223372036854775807 := by unfold maxLen at hm; omega
  have HM := Lib.hid hm
  have c1 := one_cell ((Below.heap_alloc w (.cells #[.int .i64 0, .int .i64 0] 93) hb hlt).trans hbx)
  have hra := hr.keep (Below.heap_alloc w (.cells #[.int .i64 0, .int .i64 0] 93) b hltb)
  obtain ⟨a1, a2, a3, a4⟩ := hra.at (k := 0) hc (by omega)
  rw [ex, ezx] at a1
  rw [ex] at a2
  simp only [Nat.zero_mul, Nat.zero_add] at a1 a2
  obtain ⟨b1, b2, b3, b4⟩ := hra.at (k := n) hc (by omega)
  rw [ey, ezy] at b1
  rw [ey] at b2
  clear hr hS hbx ex ey ezx ezy hm hra a3 a4 b3 b4
  have hn0 : (0 : Int) < (n : Int) + 1 := by omega
  have hne0 : ((n : Int) + 1 == 0) = false := by rw [beq_eq_false_iff_ne]; omega
  have hn1 : (n : Int) < (n : Int) + 1 := by omega
  go_enter Try.func102, Try.ntmps102
  go_wp2_with fail
  go_region
  have V1 := (Below.heap_alloc (w.alloc (.cells #[.int .i64 0, .int .i64 0] 93)) (.cells #[.int .i64 zx, .int .i64 x] 93) w.heap.size (by simp)).trans (heap_alloc_new w (.cells #[.int .i64 0, .int .i64 0] 93))
  have V2 := heap_alloc_new (w.alloc (.cells #[.int .i64 0, .int .i64 0] 93)) (.cells #[.int .i64 zx, .int .i64 x] 93)
  rw [World.size_alloc] at V2
  have V3 : Below w.heap.size w ((w.alloc (.cells #[.int .i64 0, .int .i64 0] 93)).alloc (.cells #[.int .i64 zx, .int .i64 x] 93)).drew := below_drewN (((Below.refl w.heap.size w).alloc (Nat.le_refl _) _).alloc (by simp) _) 1
  have V4 : ((w.alloc (.cells #[.int .i64 0, .int .i64 0] 93)).alloc (.cells #[.int .i64 zx, .int .i64 x] 93)).drew.heap.size = w.heap.size + 2 := by show ((w.alloc _).alloc _).heap.size = _; simp
  obtain ⟨V0, hV0⟩ : ∃ V0, ((w.alloc (.cells #[.int .i64 0, .int .i64 0] 93)).alloc (.cells #[.int .i64 zx, .int .i64 x] 93)).drew = V0 := ⟨_, rfl⟩
  have V1' : V0.heap[w.heap.size]? = some (.cells #[.int .i64 0, .int .i64 0] 93 (0, 0)) := by rw [← hV0]; exact V1
  have V2' : V0.heap[w.heap.size + 1]? = some (.cells #[.int .i64 zx, .int .i64 x] 93 (0, 0)) := by rw [← hV0]; exact V2
  rw [hV0] at V3 V4 ⊢
  clear V1 V2 hV0 c1 a1 a2 b1 b2
  have HV1 := Lib.hid V1'
  have HV2 := Lib.hid V2'
  have HV3 := Lib.hid V3
  have HV4 := Lib.hid V4
  have hbx0 := (V3.block hb hlt).trans HBX.out
  have hr0 := HR.out.keep (V3.block b hltb)
  have c1 := one_cell hbx0
  obtain ⟨a1, a2, a3, a4⟩ := hr0.at (k := 0) hc (by omega)
  rw [EX.out, EZX.out] at a1
  rw [EX.out] at a2
  simp only [Nat.zero_mul, Nat.zero_add] at a1 a2 a3 a4
  obtain ⟨b1, b2, b3, b4⟩ := hr0.at (k := n) hc (by omega)
  rw [EY.out, EZY.out] at b1
  rw [EY.out] at b2
  have hd : V0.drew.heap = V0.heap := rfl
  have HDN := Lib.hid (show DnI (((V0.setCell ⟨b, 0, none⟩ (.int .i64 zy)).setCell ⟨b, 1, none⟩ (.int .i64 y)).drew.setCell ⟨hb, 0, none⟩ (.slice (some ⟨b, 0, none⟩) n cap)) (((V0.setCell ⟨b, 0, none⟩ (.int .i64 zy)).setCell ⟨b, 1, none⟩ (.int .i64 y)).drew.setCell ⟨hb, 0, none⟩ (.slice (some ⟨b, 0, none⟩) n cap)) hb b cap Z n 0 (fun y => S y ∧ y ≠ f 0) (topF f n) from pop_mid (w := w) (wr := V0.drew) HS.out (by rw [hd]; exact hbx0) (hr0.keep rfl) hlb ⟨hc, HM.out⟩ EY.out EZY.out)
  have HFR := Lib.hid (show HpFr hb (some b) w (((V0.setCell ⟨b, 0, none⟩ (.int .i64 zy)).setCell ⟨b, 1, none⟩ (.int .i64 y)).drew.setCell ⟨hb, 0, none⟩ (.slice (some ⟨b, 0, none⟩) n cap)) from hpFr_pop (w := w) (wr := V0.drew) (hb := hb) (b := b) (u := .int .i64 zy) (v := .int .i64 y) (x := .slice (some ⟨b, 0, none⟩) n cap) (HpFr.ofBelow (V3.drew) (Nat.le_refl _)))
  have hhb : hb ≠ b := by omega
  have c5 : ((V0.setCell ⟨b, 0, none⟩ (.int .i64 zy)).setCell ⟨b, 1, none⟩ (.int .i64 y)).drew.cell? ⟨hb, 0, none⟩ = some (.slice (some ⟨b, 0, none⟩) (n + 1) cap) := show ((V0.drew.setCell ⟨b, 0, none⟩ (.int .i64 zy)).setCell ⟨b, 1, none⟩ (.int .i64 y)).cell? ⟨hb, 0, none⟩ = _ by
    rw [World.cell?_setCell_other _ _ _ _ (by simp), World.cell?_setCell_other _ _ _ _ (by simp)]; exact c1
  have f5 : ((V0.setCell ⟨b, 0, none⟩ (.int .i64 zy)).setCell ⟨b, 1, none⟩ (.int .i64 y)).drew.frozen? ⟨hb, 0, none⟩ = false := show ((V0.drew.setCell ⟨b, 0, none⟩ (.int .i64 zy)).setCell ⟨b, 1, none⟩ (.int .i64 y)).frozen? ⟨hb, 0, none⟩ = false by
    rw [World.frozen?_setCell, World.frozen?_setCell]; simp [World.frozen?, hd, hbx0]
  have HSZ := Lib.hid (show (((V0.setCell ⟨b, 0, none⟩ (.int .i64 zy)).setCell ⟨b, 1, none⟩ (.int .i64 y)).drew.setCell ⟨hb, 0, none⟩ (.slice (some ⟨b, 0, none⟩) n cap)).heap.size = w.heap.size + 2 from show (((V0.drew.setCell ⟨b, 0, none⟩ (.int .i64 zy)).setCell ⟨b, 1, none⟩ (.int .i64 y)).setCell ⟨hb, 0, none⟩ (.slice (some ⟨b, 0, none⟩) n cap)).heap.size = w.heap.size + 2 by rw [← V4]; simp [World.setCell, hd])
  have HK1 := Lib.hid (show (((V0.setCell ⟨b, 0, none⟩ (.int .i64 zy)).setCell ⟨b, 1, none⟩ (.int .i64 y)).drew.setCell ⟨hb, 0, none⟩ (.slice (some ⟨b, 0, none⟩) n cap)).heap[w.heap.size]? = some (.cells #[.int .i64 0, .int .i64 0] 93 (0, 0)) from show (((V0.drew.setCell ⟨b, 0, none⟩ (.int .i64 zy)).setCell ⟨b, 1, none⟩ (.int .i64 y)).setCell ⟨hb, 0, none⟩ (.slice (some ⟨b, 0, none⟩) n cap)).heap[w.heap.size]? = _ by
    rw [Below.heap_setCell _ _ _ _ (by simp; omega), Below.heap_setCell _ _ _ _ (by simp; omega), Below.heap_setCell _ _ _ _ (by simp; omega)]; exact V1')
  have HK2 := Lib.hid (show (((V0.setCell ⟨b, 0, none⟩ (.int .i64 zy)).setCell ⟨b, 1, none⟩ (.int .i64 y)).drew.setCell ⟨hb, 0, none⟩ (.slice (some ⟨b, 0, none⟩) n cap)).heap[w.heap.size + 1]? = some (.cells #[.int .i64 zx, .int .i64 x] 93 (0, 0)) from show (((V0.drew.setCell ⟨b, 0, none⟩ (.int .i64 zy)).setCell ⟨b, 1, none⟩ (.int .i64 y)).setCell ⟨hb, 0, none⟩ (.slice (some ⟨b, 0, none⟩) n cap)).heap[w.heap.size + 1]? = _ by
    rw [Below.heap_setCell _ _ _ _ (by simp; omega), Below.heap_setCell _ _ _ _ (by simp; omega), Below.heap_setCell _ _ _ _ (by simp; omega)]; exact V2')
  clear V1' V2' V3 V4 hbx0 hr0 hd
  go_wp2_with fail
  go_region
  clear a1 a2 b1 b2 a3 a4 b3 b4 c1
  go_wp2_with fail
  refine (settle_any hb b cap Z (topF f n) n _ _ HDN.out (by omega)).mono ?_
  rintro e w9 ⟨⟨v, rfl⟩, f', hpw, hps, hfr⟩
  have hs9 := hfr.size
  rw [HSZ.out] at hs9
  have g1 := (hfr.block w.heap.size (by rw [HSZ.out]; omega) (by omega) (by simp; omega)).trans HK1.out
  have g2 := (hfr.block (w.heap.size + 1) (by rw [HSZ.out]; omega) (by omega) (by simp; omega)).trans HK2.out
  obtain ⟨d1, d2, d3, d4⟩ := cells2P g1
  obtain ⟨d5, d6, _, _⟩ := cells2P g2
  have HE := Lib.hid (two_set w9 w.heap.size _ _ (.int .i64 zx) (.int .i64 x) g1)
  have G1 := Lib.hid (hpw.keep (W' := (w9.setCell ⟨w.heap.size, 0, none⟩ (.int .i64 zx)).setCell ⟨w.heap.size, 1, none⟩ (.int .i64 x)) (by rw [Below.heap_setCell _ _ _ _ (by simp; omega), Below.heap_setCell _ _ _ _ (by simp; omega)]) (fun b' e => by cases e; rw [Below.heap_setCell _ _ _ _ (by simp; omega), Below.heap_setCell _ _ _ _ (by simp; omega)]))
  have G2 := Lib.hid hps
  have G3 := Lib.hid (((HFR.out.trans hfr (Or.inl rfl)).setCell (b := w.heap.size) (c := 0) (Or.inr ⟨_, rfl, Nat.le_refl _⟩) (.int .i64 zx)).setCell (b := w.heap.size) (c := 1) (Or.inr ⟨_, rfl, Nat.le_refl _⟩) (.int .i64 x))
  clear hpw hps hfr g1 g2 c5 f5
  go_wp2
  refine bodyPost_ret (results_cell_row_tmp rfl _ _ w.heap.size _ #[.int .i64 zx, .int .i64 x] _ _ rfl HE.out Try.underlying93 rfl Try.sizeSpot (.bool true) rfl) rfl ?_
  refine ⟨x, f', by rw [EZX.out], by rw [← EX.out]; exact HTOP.out.1, by rw [← EX.out]; exact HTOP.out.2, G1.out, hpS_eq G2.out (fun y => by rw [EX.out]), G3.out⟩

end Go.Proofs.Ytcfeckpbjdipeaa
