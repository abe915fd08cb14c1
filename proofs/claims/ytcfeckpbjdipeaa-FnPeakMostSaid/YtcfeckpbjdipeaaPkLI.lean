/- The list of the peaks in the program. -/
import Derived.Test.YtcfeckpbjdipeaaHpI
import Derived.Test.YtcfeckpbjdipeaaPkZ
import Derived.Test.YtcfeckpbjdipeaaSkZ
import Derived.Deep.LoopGhost
namespace Go.Proofs.Ytcfeckpbjdipeaa
open Go.RowKit
set_option linter.unusedVariables false

/-- the peaks below k -/
def PkS (R C : Nat) (Z : Nat → Int) (k y : Nat) : Prop := y < k ∧ ∃ h : y < R * C, pkQ R C Z ⟨y, h⟩ = true
theorem pkS_no {R C : Nat} {Z : Nat → Int} (i : Ix (R * C)) (h : pkQ R C Z i = false) (y : Nat) : PkS R C Z i.1 y ↔ PkS R C Z (i.1 + 1) y := by
  refine ⟨fun ⟨a, b⟩ => ⟨by omega, b⟩, fun ⟨a, b⟩ => ⟨?_, b⟩⟩
  by_cases e : y = i.1
  · subst e
    obtain ⟨h1, h2⟩ := b
    rw [h] at h2; cases h2
  · omega
theorem pkS_yes {R C : Nat} {Z : Nat → Int} (i : Ix (R * C)) (h : pkQ R C Z i = true) (y : Nat) : (PkS R C Z i.1 y ∨ y = i.1) ↔ PkS R C Z (i.1 + 1) y := by
  constructor
  · rintro (⟨a, b⟩ | e)
    · exact ⟨by omega, b⟩
    · subst e; exact ⟨by omega, i.2, h⟩
  · rintro ⟨a, b⟩
    by_cases e : y = i.1
    · exact Or.inr e
    · exact Or.inl ⟨by omega, b⟩

/-- the state while the peaks are pushed -/
structure PkI (w wr : World) (o : Obj) (R C : Nat) (Z : Nat → Int) (k n : Nat) (f : Nat → Nat) (ob : Option Nat) : Prop where
  box : wr.heap[w.heap.size]? = some o
  hp : HpW wr (w.heap.size + 1) ob Z f n
  hs : HpS Z f n (PkS R C Z k)
  nk : n ≤ k
  bel : Below w.heap.size w wr
theorem HpW.far {W : World} {hb : Nat} {ob : Option Nat} {Z : Nat → Int} {f : Nat → Nat} {n : Nat} (h : HpW W hb ob Z f n) : hb < W.heap.size ∧ ∀ b, ob = some b → hb < b ∧ b < W.heap.size := by
  obtain ⟨v, a1, a2⟩ := h
  refine ⟨(Array.getElem?_eq_some_iff.1 a1).1, fun b e => ?_⟩
  rcases a2 with ⟨_, _, e2⟩ | ⟨b', cap, e1, e2, e3, e4, e5, e6⟩
  · rw [e2] at e; cases e
  · rw [e2] at e; cases e; exact ⟨e3, e6.lt⟩
theorem HpW.keepB {W W' : World} {hb B : Nat} {ob : Option Nat} {Z : Nat → Int} {f : Nat → Nat} {n : Nat} (h : HpW W hb ob Z f n) (k : Below B W W') (hB : W.heap.size ≤ B) : HpW W' hb ob Z f n :=
  h.keep (k.block hb (by have := h.far.1; omega)) (fun b e => k.block b (by have := (h.far.2 b e).2; omega))
theorem PkI.below {w wr w2 : World} {o : Obj} {R C k n : Nat} {Z : Nat → Int} {f : Nat → Nat} {ob : Option Nat} (h : PkI w wr o R C Z k n f ob) (hb : Below wr.heap.size wr w2) : PkI w w2 o R C Z k n f ob :=
  ⟨(hb.block _ (by have := h.hp.far.1; omega)).trans h.box, h.hp.keepB hb (Nat.le_refl _), h.hs, h.nk, h.bel.trans (hb.mono h.bel.size)⟩
theorem PkI.next {w wr : World} {o : Obj} {R C n : Nat} {Z : Nat → Int} {f : Nat → Nat} {ob : Option Nat} {i : Ix (R * C)} (h : PkI w wr o R C Z i.1 n f ob) (hq : pkQ R C Z i = false) : PkI w wr o R C Z (i.1 + 1) n f ob :=
  ⟨h.box, h.hp, hpS_eq h.hs (pkS_no i hq), by have := h.nk; omega, h.bel⟩
theorem PkI.push {w wr w2 : World} {o : Obj} {R C n : Nat} {Z : Nat → Int} {f f' : Nat → Nat} {ob ob' : Option Nat} {i : Ix (R * C)} (h : PkI w wr o R C Z i.1 n f ob) (hq : pkQ R C Z i = true)
    (h1 : HpW w2 (w.heap.size + 1) ob' Z f' (n + 1)) (h2 : HpS Z f' (n + 1) (fun y => PkS R C Z i.1 y ∨ y = i.1)) (h3 : HpFr (w.heap.size + 1) ob wr w2) : PkI w w2 o R C Z (i.1 + 1) (n + 1) f' ob' :=
  ⟨(h3.block _ (by have := h.hp.far.1; omega) (by omega) (fun e => by have := (h.hp.far.2 _ e.symm).1; omega)).trans h.box, h1, hpS_eq h2 (pkS_yes i hq), by have := h.nk; omega,
    h.bel.trans (h3.below (by have := h.bel.size; omega) (by omega) (fun b e => by have := (h.hp.far.2 b e).1; omega))⟩
theorem pkS_in {R C : Nat} {Z : Nat → Int} {k : Nat} : ¬ PkS R C Z k k := fun h => Nat.lt_irrefl _ h.1

/-- what has been popped -/
structure PopL (R C : Nat) (Z : Nat → Int) (l : List (Ix (R * C))) (S : Nat → Prop) : Prop where
  rk : ByRk Z l
  up : ∀ a ∈ l, ∀ y, S y → hiB Z a.1 y = true
  all : ∀ x : Ix (R * C), (x ∈ l ∨ S x.1) ↔ pkQ R C Z x = true
  lt : ∀ y, S y → y < R * C
theorem PopL.start (R C : Nat) (Z : Nat → Int) : PopL R C Z [] (PkS R C Z (R * C)) :=
  ⟨List.Pairwise.nil, fun a ha => by simp at ha, fun x => ⟨fun h => by
    rcases h with h | h
    · simp at h
    · obtain ⟨_, _, h⟩ := h; exact h, fun h => Or.inr ⟨x.2, x.2, h⟩⟩, fun y h => h.1⟩
theorem PopL.pop {R C : Nat} {Z : Nat → Int} {l : List (Ix (R * C))} {S : Nat → Prop} (h : PopL R C Z l S) (i : Ix (R * C)) (hi : S i.1) (hm : ∀ y, S y → hiB Z y i.1 = false) : PopL R C Z (l ++ [i]) (fun y => S y ∧ y ≠ i.1) := by
  refine ⟨?_, fun a ha y hy => ?_, fun x => ?_, fun y hy => h.lt y hy.1⟩
  · unfold ByRk
    rw [List.pairwise_append]
    exact ⟨h.rk, by simp, fun a ha b hb => by
      rw [List.mem_singleton] at hb
      subst hb
      exact h.up a ha _ hi⟩
  · rcases List.mem_append.1 ha with e | e
    · exact h.up a e y hy.1
    · rw [List.mem_singleton] at e
      subst e
      rcases hb : hiB Z a.1 y with _ | _
      · exact absurd (hiB_tot (hm y hy.1) hb) hy.2
      · rfl
  · rw [← h.all x, List.mem_append, List.mem_singleton]
    constructor
    · rintro ((e | e) | e)
      · exact Or.inl e
      · subst e; exact Or.inr hi
      · exact Or.inr e.1
    · rintro (e | e)
      · exact Or.inl (Or.inl e)
      · by_cases e2 : x.1 = i.1
        · exact Or.inl (Or.inr (Subtype.ext e2))
        · exact Or.inr ⟨e, e2⟩
theorem PopL.done {R C : Nat} {Z : Nat → Int} {l : List (Ix (R * C))} {S : Nat → Prop} (h : PopL R C Z l S) (h0 : ∀ y, ¬ S y) : l = rkL R C Z (R * C) :=
  byRk_eq h.rk (rkL_rk (Nat.le_refl _)) (fun x => by
    rw [rkL_mem (Nat.le_refl _), ← h.all x]
    exact ⟨fun k => ⟨x.2, Or.inl k⟩, fun k => k.2.resolve_right (h0 _)⟩)
theorem PopL.len {R C : Nat} {Z : Nat → Int} {l : List (Ix (R * C))} {S : Nat → Prop} (h : PopL R C Z l S) : l.length ≤ R * C := by
  have : l.Nodup := h.rk.imp (fun {a b} k e => by rw [e, hiB_irr] at k; cases k)
  have h2 := List.Nodup.length_le_of_subset (l₂ := (List.finRange (R * C)).map fun x => (⟨x.1, x.2⟩ : Ix (R * C))) this (fun x _ => by
    rw [List.mem_map]
    exact ⟨⟨x.1, x.2⟩, List.mem_finRange _, rfl⟩)
  simpa using h2
theorem hpS_zero {Z : Nat → Int} {f : Nat → Nat} {S : Nat → Prop} (h : HpS Z f 0 S) : ∀ y, ¬ S y := fun y hy => by
  obtain ⟨k, hk, _⟩ := (h.mem y).1 hy
  omega

/-- the state while the peaks are popped -/
structure PoI (w wr : World) (hb B1 : Nat) (R C : Nat) (Z : Nat → Int) (v : Value) (pre : List (Ix (R * C))) (sb : Nat) (ok : Bool) (x : Nat) (n : Nat) (f : Nat → Nat) (ob : Option Nat) (S : Nat → Prop) : Prop where
  hp : HpW wr hb ob Z f n
  hs : HpS Z f n S
  n50 : n ≤ R * C
  old : hb < B1 ∧ ∀ b, ob = some b → b < B1
  li : Lists B1 wr v pre
  spot : wr.heap[sb]? = some (.cells #[.int .i64 (if ok then Z x else 0), .int .i64 (if ok then x else 0 : Nat)] 93 (0, 0))
  sb1 : B1 ≤ sb
  far : ∀ k, v.ownBlock = some k → k ≠ sb
  yes : ok = true → ∃ i : Ix (R * C), i.1 = x ∧ PopL R C Z (pre ++ [i]) S
  no : ok = false → n = 0 ∧ PopL R C Z pre S
  bel : Below w.heap.size w wr
  low : w.heap.size ≤ hb ∧ (∀ b, ob = some b → w.heap.size ≤ b) ∧ B1 ≤ wr.heap.size

theorem ownsRow_keepP {w w2 : World} {base : Nat} {e : TypeId} {size : Nat} {v : Value} {n : Nat} {xs : List Value} (h : w.ownsRow base e size v n xs) (hs : ∀ k, base ≤ k → k < w.heap.size → w2.heap[k]? = w.heap[k]?) : w2.ownsRow base e size v n xs := by
  obtain ⟨h1, h2⟩ := h
  refine ⟨h1, ?_⟩
  rcases h2 with h2 | ⟨g, cap, cur, hv, hg, hh, r⟩
  · exact Or.inl h2
  · exact Or.inr ⟨g, cap, cur, hv, hg, by rw [hs g hg (lt_of_block hh)]; exact hh, r⟩

/-- the state behind the append -/
structure PoM (w wr : World) (hb B1 : Nat) (R C : Nat) (Z : Nat → Int) (v : Value) (L : List (Ix (R * C))) (n : Nat) (f : Nat → Nat) (ob : Option Nat) (S : Nat → Prop) : Prop where
  hp : HpW wr hb ob Z f n
  hs : HpS Z f n S
  n50 : n ≤ R * C
  old : hb < B1 ∧ ∀ b, ob = some b → b < B1
  li : Lists B1 wr v L
  pop : PopL R C Z L S
  bel : Below w.heap.size w wr
  low : w.heap.size ≤ hb ∧ (∀ b, ob = some b → w.heap.size ≤ b) ∧ B1 ≤ wr.heap.size
theorem PoM.below {w wr w2 : World} {hb B1 R C n : Nat} {Z : Nat → Int} {v : Value} {L : List (Ix (R * C))} {f : Nat → Nat} {ob : Option Nat} {S : Nat → Prop} (h : PoM w wr hb B1 R C Z v L n f ob S) (hb2 : Below wr.heap.size wr w2) : PoM w w2 hb B1 R C Z v L n f ob S :=
  ⟨h.hp.keepB hb2 (Nat.le_refl _), h.hs, h.n50, h.old, h.li.below hb2 (Nat.le_refl _), h.pop, h.bel.trans (hb2.mono h.bel.size), h.low.1, h.low.2.1, Nat.le_trans h.low.2.2 hb2.size⟩
theorem PoI.app {w wr w4 : World} {hb B1 R C n sb x : Nat} {Z : Nat → Int} {v v' : Value} {pre : List (Ix (R * C))} {f : Nat → Nat} {ob : Option Nat} {S : Nat → Prop} {o : Obj} (h : PoI w wr hb B1 R C Z v pre sb true x n f ob S)
    (hown : w4.ownsRow B1 3 1 v' (pre.length + 1) (ixV pre ++ [.int .i64 x])) (hg : (wr.alloc o).grownBy w4 v.ownBlock) (hat : v'.ownBlock = v.ownBlock ∨ v'.ownBlock = some (wr.alloc o).heap.size) :
    ∃ i : Ix (R * C), i.1 = x ∧ PoM w w4 hb B1 R C Z v' (pre ++ [i]) n f ob S ∧ w4.heap[sb]? = some (.cells #[.int .i64 (Z x), .int .i64 x] 93 (0, 0)) ∧ (∀ k, v'.ownBlock = some k → k ≠ sb) ∧ sb < w4.heap.size := by
  obtain ⟨i, rfl, hpop⟩ := h.yes rfl
  have hsb : sb < wr.heap.size := lt_of_block h.spot
  have hsz : (wr.alloc o).heap.size = wr.heap.size + 1 := by simp
  have hne : ∀ k, v.ownBlock = some k → B1 ≤ k := fun k hk => (h.li.lt k hk).1
  have blk : ∀ k, k < wr.heap.size → (∀ j, v.ownBlock = some j → k ≠ j) → w4.heap[k]? = wr.heap[k]? := fun k hk hj => by
    rw [hg.block k (by omega) (fun e => hj k e.symm rfl), Below.heap_alloc _ _ _ hk]
  have e1 := blk hb h.hp.far.1 (fun j hj => by have := hne j hj; have := h.old.1; omega)
  have e3 := blk sb hsb (fun j hj e => h.far j hj e.symm)
  have hs4 := hg.size
  refine ⟨i, rfl, ⟨h.hp.keep e1 (fun b e => blk b (h.hp.far.2 b e).2 (fun j hj => by have := hne j hj; have := h.old.2 b e; omega)), h.hs, h.n50, h.old, ?_, hpop, ?_, h.low.1, h.low.2.1, by have := h.low.2.2; omega⟩, ?_, fun k hk e => ?_, by omega⟩
  · have e : ixV (pre ++ [i]) = ixV pre ++ [.int .i64 i.1] := by simp [ixV]
    unfold Lists
    rw [e, List.length_append]
    exact hown
  · exact (h.bel.alloc h.bel.size o).grown hg (by have := h.bel.size; omega) (fun k hk => by have := hne k hk; have := h.low.1; have := h.old.1; omega)
  · rw [e3]; exact h.spot
  · rcases hat with e2 | e2
    · exact h.far k (e2 ▸ hk) e
    · rw [hk] at e2; simp only [Option.some.injEq] at e2; omega

theorem PoM.fin {w w4 w6 : World} {hb B1 R C n m : Nat} {Z : Nat → Int} {v : Value} {L : List (Ix (R * C))} {f f' : Nat → Nat} {ob : Option Nat} {S T : Nat → Prop} {sb : Nat} {ok : Bool} {y : Nat} {u1 u2 : Value} {o : Obj} (h : PoM w w4 hb B1 R C Z v L n f ob S)
    (hfr : HpFr hb ob (w4.alloc o) w6) (hsb : sb = w4.heap.size) (ho : o = .cells #[u1, u2] 93) (hp : HpW w6 hb ob Z f' m) (hs : HpS Z f' m T) (hm : m ≤ R * C)
    (hy : ok = true → ∃ i : Ix (R * C), i.1 = y ∧ PopL R C Z (L ++ [i]) T) (hn : ok = false → m = 0 ∧ PopL R C Z L T) {zy : Int} {yy : Int} (ez : zy = if ok then Z y else 0) (ey : yy = ((if ok then y else 0 : Nat) : Int)) :
    PoI w ((w6.setCell ⟨sb, 0, none⟩ (.int .i64 zy)).setCell ⟨sb, 1, none⟩ (.int .i64 yy)) hb B1 R C Z v L sb ok y m f' ob T := by
  subst hsb ho ez ey
  have hsz : (w4.alloc (.cells #[u1, u2] 93)).heap.size = w4.heap.size + 1 := by simp
  have hh := h.hp.far
  have e0 := (hfr.block w4.heap.size (by omega) (by omega) (fun e => by have := (hh.2 _ e.symm).2; omega)).trans (heap_alloc_new w4 _)
  have hs6 := hfr.size
  have hfar : ∀ k, v.ownBlock = some k → B1 ≤ k ∧ k < w4.heap.size := fun k hk => h.li.lt k hk
  have blk : ∀ k, k ≠ w4.heap.size → ((w6.setCell ⟨w4.heap.size, 0, none⟩ (.int .i64 (if ok then Z y else 0))).setCell ⟨w4.heap.size, 1, none⟩ (.int .i64 ((if ok then y else 0 : Nat) : Int))).heap[k]? = w6.heap[k]? := fun k hk => by
    rw [Below.heap_setCell _ _ _ _ (by simpa using hk), Below.heap_setCell _ _ _ _ (by simpa using hk)]
  refine ⟨hp.keep (blk hb (by omega)) (fun b e => blk b (by have := (hh.2 b e).2; omega)), hs, hm, h.old, ?_, two_set _ _ _ _ _ _ e0, h.low.2.2, fun k hk e => by have := (hfar k hk).2; omega, hy, hn, ?_, h.low.1, h.low.2.1, ?_⟩
  · refine ownsRow_keepP h.li (fun k hk1 hk2 => ?_)
    rw [blk k (by omega), hfr.block k (by omega) (by have := h.old.1; omega) (fun e => by have := h.old.2 k e.symm; omega), Below.heap_alloc _ _ _ hk2]
  · have b6 := hfr.below (B := w.heap.size) (by have := h.bel.size; omega) h.low.1 h.low.2.1
    exact (((h.bel.alloc h.bel.size _).trans b6).setCell (p := ⟨w4.heap.size, 0, none⟩) h.bel.size _).setCell (p := ⟨w4.heap.size, 1, none⟩) h.bel.size _
  · have := h.low.2.2; simp [World.setCell]; omega

/-- what a pop leaves, in one form -/
structure PopOut (R C : Nat) (Z : Nat → Int) (L : List (Ix (R * C))) (hb : Nat) (ob : Option Nat) (n : Nat) (w w' : World) (ok : Bool) (y m : Nat) (f' : Nat → Nat) (T : Nat → Prop) : Prop where
  fr : HpFr hb ob w w'
  hp : HpW w' hb ob Z f' m
  hs : HpS Z f' m T
  hm : m ≤ R * C
  yes : ok = true → ∃ i : Ix (R * C), i.1 = y ∧ PopL R C Z (L ++ [i]) T
  no : ok = false → m = 0 ∧ PopL R C Z L T
  less : m + (if ok then 1 else 0) ≤ n

theorem pop_out {w w4 w5 : World} {hb B1 R C n : Nat} {Z : Nat → Int} {v : Value} {L : List (Ix (R * C))} {f : Nat → Nat} {ob : Option Nat} {S : Nat → Prop} (h : PoM w w4 hb B1 R C Z v L n f ob S) (hb5 : Below w4.heap.size w4 w5) (h49 : R * C ≤ 49) :
    Calls Try.prog 102 #[.pointer (some ⟨hb, 0, none⟩)] w5 (fun e w6 => ∃ ok y m f' T zy, e = .returned (.tuple #[.agg #[.int .i64 zy, .int .i64 ((if ok then y else 0 : Nat) : Int)], .bool ok]) ∧ zy = (if ok then Z y else 0) ∧ PopOut R C Z L hb ob n w5 w6 ok y m f' T) := by
  have h5 := h.below hb5
  have hn := h.n50
  cases n with
  | zero =>
    refine (pop_none hb ob Z f w5 h5.hp).mono ?_
    rintro e w6 ⟨rfl, hb6⟩
    exact ⟨false, 0, 0, f, S, 0, rfl, rfl, HpFr.ofBelow hb6 (Nat.le_refl _), h5.hp.keepB hb6 (Nat.le_refl _), h.hs, Nat.zero_le _, (fun e => by cases e), (fun _ => ⟨rfl, h.pop⟩), by simp⟩
  | succ n =>
    refine (pop_any hb ob Z f n S w5 h5.hp h.hs (by omega)).mono ?_
    rintro e w6 ⟨y, f', rfl, hy, hup, hp6, hs6, hf6⟩
    exact ⟨true, y, n, f', _, Z y, rfl, rfl, hf6, hp6, hs6, by omega, (fun _ => ⟨⟨y, h.pop.lt y hy⟩, rfl, h.pop.pop ⟨y, h.pop.lt y hy⟩ hy hup⟩), (fun e => by cases e), by simp⟩

theorem PoM.init {w w4 w6 : World} {hb B1 R C n m y : Nat} {Z : Nat → Int} {v : Value} {L : List (Ix (R * C))} {f f' : Nat → Nat} {ob : Option Nat} {S T : Nat → Prop} {ok : Bool} (h : PoM w w4 hb B1 R C Z v L n f ob S) (ho : PopOut R C Z L hb ob n w4 w6 ok y m f' T) {zy : Int} (ez : zy = if ok then Z y else 0) :
    PoI w (w6.alloc (.cells #[.int .i64 zy, .int .i64 ((if ok then y else 0 : Nat) : Int)] 93)) hb B1 R C Z v L w6.heap.size ok y m f' ob T := by
  subst ez
  have ha := (Below.refl w6.heap.size w6).alloc (Nat.le_refl _) (.cells #[.int .i64 (if ok then Z y else 0), .int .i64 ((if ok then y else 0 : Nat) : Int)] 93)
  have hs := ho.fr.size
  have hfar : ∀ k, v.ownBlock = some k → B1 ≤ k ∧ k < w4.heap.size := fun k hk => h.li.lt k hk
  refine ⟨ho.hp.keepB ha (Nat.le_refl _), ho.hs, ho.hm, h.old, ?_, heap_alloc_new w6 _, by have := h.low.2.2; omega, fun k hk e => by have := (hfar k hk).2; omega, ho.yes, ho.no, ?_, h.low.1, h.low.2.1, by have := h.low.2.2; simp; omega⟩
  · refine ownsRow_keepP h.li (fun k hk1 hk2 => ?_)
    rw [Below.heap_alloc _ _ _ (by omega), ho.fr.block k (by omega) (by have := h.old.1; omega) (fun e => by have := h.old.2 k e.symm; omega)]
  · exact (h.bel.trans (ho.fr.below (B := w.heap.size) h.bel.size h.low.1 h.low.2.1)).alloc (by have := h.bel.size; omega) _
theorem PoM.fin' {w w4 w6 : World} {hb B1 R C n m y : Nat} {Z : Nat → Int} {v : Value} {L : List (Ix (R * C))} {f f' : Nat → Nat} {ob : Option Nat} {S T : Nat → Prop} {ok : Bool} {u1 u2 : Value} {sb : Nat} (h : PoM w w4 hb B1 R C Z v L n f ob S) (ho : PopOut R C Z L hb ob n (w4.alloc (.cells #[u1, u2] 93)) w6 ok y m f' T) (hsb : sb = w4.heap.size) {zy : Int} (ez : zy = if ok then Z y else 0) :
    PoI w ((w6.setCell ⟨sb, 0, none⟩ (.int .i64 zy)).setCell ⟨sb, 1, none⟩ (.int .i64 ((if ok then y else 0 : Nat) : Int))) hb B1 R C Z v L sb ok y m f' ob T :=
  h.fin ho.fr hsb rfl ho.hp ho.hs ho.hm ho.yes ho.no ez rfl

set_option maxHeartbeats 8000000 in
set_option maxRecDepth 100000 in
theorem peaks_any (R C gg cap cnt : Nat) (hR : R ≤ 7) (hC : C ≤ 7) (Z : Nat → Int) (w : World) (h : Rv w R C cnt gg cap Z) :
    Calls Try.prog 60 #[.agg #[.int .i64 R, .int .i64 C, .slice (some ⟨gg, 0, none⟩) cnt cap]] w (LvPost (rkL R C Z (R * C)) w) := by
  have H := Lib.hid h
  have h49 := mul_le_49 hR hC
  have hcn : cnt = R * C := h.n_eq
  have hcn49 : cnt ≤ 49 := by omega
  have hle : cnt ≤ cap := h.le
  have HCN := Lib.hid hcn
  obtain ⟨i0, hi0, hz0, hz1, hz2⟩ := info_parts Try.infoI
  have e1 : (w.alloc (.cells #[.int .i64 R, .int .i64 C, .slice (some ⟨gg, 0, none⟩) cnt cap] 50)).heap.size = w.heap.size + 1 := by simp
  have hb0 := ((Below.refl w.heap.size w).alloc (Nat.le_refl _) (.cells #[.int .i64 R, .int .i64 C, .slice (some ⟨gg, 0, none⟩) cnt cap] 50)).alloc (by simp) (.cells #[.slice none 0 0] 90)
  have hx0 := heap_alloc_new (w.alloc (.cells #[.int .i64 R, .int .i64 C, .slice (some ⟨gg, 0, none⟩) cnt cap] 50)) (.cells #[.slice none 0 0] 90)
  rw [e1] at hx0
  have HP0 := Lib.hid (show PkI w ((w.alloc (.cells #[.int .i64 R, .int .i64 C, .slice (some ⟨gg, 0, none⟩) cnt cap] 50)).alloc (.cells #[.slice none 0 0] 90)) (.cells #[.int .i64 R, .int .i64 C, .slice (some ⟨gg, 0, none⟩) cnt cap] 50 (0, 0)) R C Z 0 0 (fun x => x) none from
    ⟨(Below.heap_alloc _ _ _ (by omega)).trans (heap_alloc_new w _), ⟨_, hx0, Or.inl ⟨rfl, rfl, rfl⟩⟩, ⟨fun k h1 h2 => by omega, fun i j h1 => by omega, fun x => ⟨fun h => by have := h.1; omega, fun ⟨k, h, _⟩ => by omega⟩⟩, Nat.le_refl _, hb0⟩)
  clear h hcn hb0 hx0 e1
  go_enter Try.func60, Try.ntmps60
  go_wp2
  go_loopw [11] (fun s wr => ∃ (k n : Nat) (f : Nat → Nat) (ob : Option Nat), k ≤ cnt ∧ s = .int .i64 k ∧ PkI w wr (.cells #[.int .i64 R, .int .i64 C, .slice (some ⟨gg, 0, none⟩) cnt cap] 50 (0, 0)) R C Z k n f ob) (fun s _ => cnt - (intOf s).toNat)
  case atStart => exact ⟨0, 0, _, _, Nat.zero_le _, rfl, HP0.out⟩
  case round =>
    obtain ⟨k, n, f, ob, hk, rfl, pki⟩ := hrel
    clear HP0
    have HPK := Lib.hid pki
    have hsz := pki.bel.size
    have HRV := Lib.hid (H.out.keep pki.bel (Nat.le_refl _))
    obtain ⟨m0, m1, m2, _, _, _⟩ := cells3 pki.box
    clear pki
    by_cases hlt : k < cnt
    · have hlt' : (k : Int) < cnt := by omega
      obtain ⟨i, hi'⟩ : ∃ i : Ix (R * C), i.1 = k := ⟨⟨k, by rw [← HCN.out]; exact hlt⟩, rfl⟩
      have HI := Lib.hid hi'
      have HIP := Lib.hid (isPeak_any R C gg cap cnt hR hC Z i wr HRV.out)
      rw [hi'] at HIP
      obtain ⟨q, eq⟩ : ∃ q, pkQ R C Z i = q := ⟨_, rfl⟩
      rw [eq] at HIP
      have EQ := Lib.hid eq
      clear eq hi'
      cases q
      case false =>
        go_wp2_with fail
        refine HIP.out.mono ?_
        rintro e w2 ⟨rfl, hb2⟩
        have P2 := Lib.hid (show PkI w w2 (.cells #[.int .i64 R, .int .i64 C, .slice (some ⟨gg, 0, none⟩) cnt cap] 50 (0, 0)) R C Z (k + 1) n f ob by have := (HPK.out.below hb2); rw [← HI.out] at this ⊢; exact this.next EQ.out)
        clear hb2 m0 m1 m2
        go_wp2
        go_roundw
        case rel => exact ⟨k + 1, n, f, ob, by omega, by go_num, P2.out⟩
        case measure => simp [intOf]; omega
      case true =>
        go_wp2_with fail
        refine HIP.out.mono ?_
        rintro e w2 ⟨rfl, hb2⟩
        have P2 := Lib.hid (HPK.out.below hb2)
        obtain ⟨m0, m1, m2, _, _, _⟩ := cells3 P2.out.box
        have HRV2 := Lib.hid (H.out.keep P2.out.bel (Nat.le_refl _))
        have HSP := Lib.hid (spot_any R C gg cap cnt Z k w2 HRV2.out hlt (by omega))
        clear hb2
        go_wp2_with fail
        refine HSP.out.mono ?_
        rintro e w3 ⟨rfl, hb3⟩
        have P3 := Lib.hid (P2.out.below hb3)
        clear hb3 m0 m1 m2
        go_wp2_with fail
        refine (push_any (w.heap.size + 1) ob Z f n k _ w3 P3.out.hp P3.out.hs pkS_in (by have := P3.out.nk; omega) (by omega)).mono ?_
        rintro e w4 ⟨⟨v4, rfl⟩, f', ob', hp4, hs4, _, hf4⟩
        have P4 := Lib.hid (show PkI w w4 (.cells #[.int .i64 R, .int .i64 C, .slice (some ⟨gg, 0, none⟩) cnt cap] 50 (0, 0)) R C Z (k + 1) (n + 1) f' ob' by have := P3.out; rw [← HI.out] at this hs4 ⊢; exact this.push EQ.out hp4 hs4 hf4)
        clear hp4 hs4 hf4
        go_wp2
        go_roundw
        case rel => exact ⟨k + 1, n + 1, f', ob', by omega, by go_num, P4.out⟩
        case measure => simp [intOf]; omega
    · have ek : k = cnt := by omega
      have hge : ¬ (k : Int) < cnt := by omega
      have HPM := Lib.hid (show PoM w wr (w.heap.size + 1) wr.heap.size R C Z (.slice none 0 0) ([] : List (Ix (R * C))) n f ob (PkS R C Z (R * C)) from
        ⟨HPK.out.hp, by have := HPK.out.hs; rw [ek, HCN.out] at this; exact this, by have := HPK.out.nk; have := HCN.out; omega, ⟨HPK.out.hp.far.1, fun b e => (HPK.out.hp.far.2 b e).2⟩, lists_nil _ _, PopL.start R C Z, HPK.out.bel, by omega, fun b e => by have := (HPK.out.hp.far.2 b e).1; omega, Nat.le_refl _⟩)
      have HPOP := Lib.hid (pop_out HPM.out (Below.refl _ _) h49)
      clear m0 m1 m2 ek hlt HRV
      go_wp2_with fail
      refine HPOP.out.mono ?_
      rintro e w2 ⟨ok, y, m, f2, T, zy, rfl, ez, hpo⟩
      have HPI := Lib.hid (HPM.out.init hpo ez)
      have hs2 := hpo.fr.size
      clear hpo ez HPOP
      obtain ⟨yy, eyy⟩ : ∃ yy : Int, ((if ok then y else 0 : Nat) : Int) = yy := ⟨_, rfl⟩
      rw [eyy] at HPI ⊢
      clear eyy
      obtain ⟨B1, eB⟩ : ∃ B, wr.heap.size = B := ⟨_, rfl⟩
      rw [eB] at HPI hs2
      clear HPM HPK eB hsz
      go_wp2
      go_loopg [5, 6, 7] (m + (if ok then 1 else 0)) (fun gk s5 s6 s7 wl => ∃ (v : Value) (pre : List (Ix (R * C))) (sb : Nat) (ok : Bool) (x n : Nat) (f : Nat → Nat) (ob : Option Nat) (S : Nat → Prop), s5 = v ∧ s6 = .pointer (some ⟨sb, 0, none⟩) ∧ s7 = .bool ok ∧ PoI w wl (w.heap.size + 1) B1 R C Z v pre sb ok x n f ob S ∧ n + (if ok then 1 else 0) ≤ gk)
      case atStart => exact ⟨_, _, _, ok, _, m, _, _, _, rfl, rfl, rfl, HPI.out, Nat.le_refl _⟩
      case round =>
        clear HPI
        obtain ⟨v, pre, sb, ok, x, n, f, ob, S, rfl, rfl, rfl, poi, hg⟩ := hrel
        have HPO := Lib.hid poi
        cases ok
        case false =>
          have HE := Lib.hid (show rkL R C Z (R * C) = pre from by
            obtain ⟨h1, h2⟩ := poi.no rfl
            have h3 := poi.hs
            rw [h1] at h3
            exact (h2.done (hpS_zero h3)).symm)
          clear poi
          go_wp2
          go_ret
          exact LvPost.mk' HE.out (ownsRow_base HPO.out.li (by have := HPO.out.low.1; have := HPO.out.old.1; omega)) HPO.out.bel
        case true =>
          have hsp := poi.spot
          simp only [if_true] at hsp hg
          obtain ⟨c1, c2, _, _⟩ := cells2P hsp
          have hlen : pre.length + 1 ≤ R * C := by
            obtain ⟨i, _, h2⟩ := poi.yes rfl
            have := h2.len
            simpa using this
          have hli : _ := poi.li
          have hB1 := poi.low.2.2
          obtain ⟨av, cv, rfl⟩ := hli.shape
          have HLI := Lib.hid (show World.ownsRow _ B1 3 1 (.slice av pre.length cv) pre.length (ixV pre) from hli)
          obtain ⟨zx, ezx⟩ : ∃ z, Z x = z := ⟨_, rfl⟩
          have EZX := Lib.hid ezx
          rw [ezx] at c1
          clear poi hsp hli ezx
          go_wp2_with (first | (at_builtin; refine wpList_append_own_at _ rfl _ _ 27 rfl B1 3 i0 (.int .i64 0) 1 8 Try.underlying27 hi0 hz0 hz1 hz2 rfl (by decide) (.slice av pre.length cv) pre.length (ixV pre) rfl (HLI.out.alloc _) ⟨_, 0, none⟩ 1 1 [.int .i64 x] rfl rfl (World.news_of_block (cs := #[.int .i64 x]) (t := 3) (fr := (0, 0)) (heap_alloc_new _ _)) (by simp [Value.oneCell']) (by unfold maxLen; omega) (by omega) (by rw [World.size_alloc]; omega) ?_; intro v4 w4 hown4 hg4 _ hat4; obtain ⟨i, hi', hpm, hsp4, hfar4, hsb4⟩ := HPO.out.app hown4 hg4 hat4; have HPM := Lib.hid hpm; have HSP4 := Lib.hid hsp4; have HF4 := Lib.hid hfar4; clear hpm hown4 hg4 hat4 hfar4; obtain ⟨d1, d2, _, _⟩ := cells2P hsp4; rw [EZX.out] at d1; clear hsp4))
          refine (pop_out HPM.out ((Below.refl w4.heap.size w4).alloc (Nat.le_refl _) (.cells #[.int .i64 zx, .int .i64 x] 93)) h49).mono ?_
          rintro e w6 ⟨ok2, y2, m2, f3, T2, zy2, rfl, ez2, hpo⟩
          have HPI := Lib.hid (HPM.out.fin' hpo rfl ez2)
          have HLS := Lib.hid hpo.less
          have hfa := HPM.out.hp.far
          obtain ⟨g1, g2, g3, g4⟩ := cells2P ((hpo.fr.block w4.heap.size (by simp) (by omega) (fun e => by have := (hfa.2 _ e.symm).2; omega)).trans (heap_alloc_new w4 (.cells #[.int .i64 zx, .int .i64 x] 93)))
          clear hpo ez2 d1 d2 c1 c2 hfa
          obtain ⟨yy2, eyy⟩ : ∃ yy : Int, ((if ok2 then y2 else 0 : Nat) : Int) = yy := ⟨_, rfl⟩
          rw [eyy] at HPI ⊢
          clear eyy
          go_wp2
          go_roundg (m2 + (if ok2 then 1 else 0))
          case measure => have := HLS.out; omega
          case rel => exact ⟨_, _, _, ok2, _, m2, _, _, _, rfl, rfl, rfl, HPI.out, Nat.le_refl _⟩

set_option maxHeartbeats 4000000 in
set_option maxRecDepth 100000 in
theorem implPeakList_any (v : Value) (lo hi : Nat) (g : G) (w : World) (hv : RdM lo hi w v g) (hh : hi ≤ w.heap.size) :
    Calls Try.prog 20 #[v] w (LvPost g.rkV w) := by
  by_cases h : g.Valid
  case neg =>
    have HC := Lib.hid (reliefOf_no v lo hi g w hv hh h)
    have HA := Lib.hid (G.rkV_no h)
    clear hv h
    go_enter Try.func20, Try.ntmps20
    go_wp2_with fail
    refine HC.out.mono ?_
    rintro e w1 ⟨rfl, hb1⟩
    have HB1 := Lib.hid (hb1.alloc hb1.size (.cells #[.int .i64 0, .int .i64 0, .slice none 0 0] 50))
    clear hb1
    go_wp2
    go_ret
    exact LvPost.mk' HA.out (lists_nil _ _) HB1.out
  case pos =>
    have HC := Lib.hid (reliefOf_yes v lo hi g w hv hh h)
    have HA := Lib.hid (G.rkV_yes h)
    have hn7 := h.1.2
    have hl7 := h.2.1.2
    clear hv h
    go_enter Try.func20, Try.ntmps20
    go_wp2_with fail
    refine HC.out.mono ?_
    intro e w1 hq
    obtain ⟨n, gg, cap, rfl, hrv, hb1⟩ := hq.rv
    have HB1 := Lib.hid (hb1.alloc hb1.size (.cells #[.int .i64 g.n, .int .i64 (g.len 0), .slice (some ⟨gg, 0, none⟩) n cap] 50))
    have HRV := Lib.hid (hrv.keep ((Below.refl w1.heap.size w1).alloc (Nat.le_refl _) (.cells #[.int .i64 g.n, .int .i64 (g.len 0), .slice (some ⟨gg, 0, none⟩) n cap] 50)) (Nat.le_refl _))
    clear hq hrv hb1
    go_wp2_with fail
    refine (peaks_any g.n (g.len 0) gg cap n hn7 hl7 g.flat _ HRV.out).mono ?_
    rintro e w3 ⟨v3, rfl, hl3, hb3⟩
    have HB3 := Lib.hid (HB1.out.trans (hb3.mono HB1.out.size))
    have HL3 := Lib.hid hl3
    clear hb3 hl3
    go_wp2
    go_ret
    exact LvPost.mk' HA.out (World.ownsRow.mono HL3.out HB1.out.size) HB3.out

end Go.Proofs.Ytcfeckpbjdipeaa
