/- The program's iterator over the passes. -/
import Derived.Test.YtlbdglhippapnabPsM
import Derived.Test.YtlbdglhippapnabStop
import Derived.Test.YtlbdglhippapnabHpI3
import Derived.Test.YtlbdglhippapnabPkLI
import Derived.Test.YtlbdglhippapnabRgM2
import Derived.Test.YtlbdglhippapnabLvI2
namespace Go.Proofs.Ytlbdglhippapnab
open Go.RowKit Go.Shelf
set_option linter.unusedVariables false
attribute [local go_sem] Oper.semAt_some

/-- from s on, and at Bm and gg, all blocks lie as they lay -/
structure KqP (Bm gg s : Nat) (A B : World) : Prop where
  size : A.heap.size ≤ B.heap.size
  same : ∀ k, (s ≤ k ∨ k = Bm ∨ k = gg) → k < A.heap.size → B.heap[k]? = A.heap[k]?
theorem KqP.refl (Bm gg s : Nat) (A : World) : KqP Bm gg s A A := ⟨Nat.le_refl _, fun _ _ _ => rfl⟩
theorem KqP.trans {Bm gg s : Nat} {A B C : World} (h : KqP Bm gg s A B) (k : KqP Bm gg s B C) : KqP Bm gg s A C :=
  ⟨Nat.le_trans h.size k.size, fun i hi hlt => (k.same i hi (Nat.lt_of_lt_of_le hlt h.size)).trans (h.same i hi hlt)⟩
theorem KqP.of_below {Bm gg s : Nat} {A B : World} (h : Below A.heap.size A B) : KqP Bm gg s A B := ⟨h.size, fun k _ hk => h.block k hk⟩

/-- the iterator's memory: W: the world in which it was called -/
structure PzM (W V : World) (Bm R C cnt gg cap hb fb xb : Nat) (Z : Nat → Int) (S : Nat → Prop) (G : Ix (R * C) → Prop) (n : Nat) (f : Nat → Nat) (ob : Option Nat) (F : Nat → Bool) : Prop where
  hp : HpW V hb ob Z f n
  hs : HpS Z f n S
  nle : n ≤ R * C
  fd : V.rowIs fb 4 cnt (fun k => .bool (F k))
  hF : ∀ x : Ix (R * C), F x.1 = true ↔ G x
  bx : V.heap[xb]? = some (.cells #[.slice (some ⟨fb, 0, none⟩) cnt cnt] 75 (0, 0))
  lay : V.heap[Bm]? = some (.cells #[.int .i64 R, .int .i64 C, .slice (some ⟨gg, 0, none⟩) cnt cap] 38 (0, 0))
  rv : Rv V R C cnt gg cap Z
  old : Bm < W.heap.size ∧ gg < W.heap.size
  far : W.heap.size ≤ hb ∧ W.heap.size ≤ fb ∧ W.heap.size ≤ xb ∧ hb ≠ fb ∧ hb ≠ xb ∧ fb ≠ xb ∧ ∀ b, ob = some b → b ≠ fb ∧ b ≠ xb ∧ W.heap.size ≤ b
  szW : W.heap.size ≤ V.heap.size

theorem PzM.kq {W V V2 : World} {Bm R C cnt gg cap hb fb xb n : Nat} {Z : Nat → Int} {S : Nat → Prop} {G : Ix (R * C) → Prop} {f : Nat → Nat} {ob : Option Nat} {F : Nat → Bool} (h : PzM W V Bm R C cnt gg cap hb fb xb Z S G n f ob F) (k : KqP Bm gg W.heap.size V V2) : PzM W V2 Bm R C cnt gg cap hb fb xb Z S G n f ob F := by
  obtain ⟨h1, h2, h3, h4, h5, h6, h7⟩ := h.far
  exact ⟨h.hp.keep (k.same _ (Or.inl h1) h.hp.far.1) (fun b e => k.same _ (Or.inl (h7 b e).2.2) (h.hp.far.2 b e).2), h.hs, h.nle, h.fd.of_block (k.same _ (Or.inl h2) h.fd.lt), h.hF, (k.same _ (Or.inl h3) (lt_of_block h.bx)).trans h.bx,
    (k.same _ (Or.inr (Or.inl rfl)) (lt_of_block h.lay)).trans h.lay, ⟨h.rv.n_eq, Nat.lt_of_lt_of_le h.rv.lt k.size, h.rv.le, fun i hi => (World.cell?_of_block (a := ⟨gg, i, none⟩) (k.same _ (Or.inr (Or.inr rfl)) h.rv.lt)).trans (h.rv.cell i hi)⟩, h.old, h.far, Nat.le_trans h.szW k.size⟩
theorem PzM.below {W V V2 : World} {Bm R C cnt gg cap hb fb xb n : Nat} {Z : Nat → Int} {S : Nat → Prop} {G : Ix (R * C) → Prop} {f : Nat → Nat} {ob : Option Nat} {F : Nat → Bool} (h : PzM W V Bm R C cnt gg cap hb fb xb Z S G n f ob F) (k : Below V.heap.size V V2) : PzM W V2 Bm R C cnt gg cap hb fb xb Z S G n f ob F := h.kq (KqP.of_below k)

theorem grown_cells {W W' : World} {row : Option Nat} (hg : W.grownBy W' row) (hr : ∀ r, row = some r → ∃ o : Obj, W.heap[r]? = some o ∧ o.isCells = false) {b : Nat} {cs : Array Value} {t : TypeId} {fr : Nat × Nat} (hb : W.heap[b]? = some (.cells cs t fr)) : W'.heap[b]? = W.heap[b]? := by
  refine hg.block b (lt_of_block hb) (fun e => ?_)
  obtain ⟨o, ho, hc⟩ := hr b e.symm
  rw [hb] at ho
  cases ho
  cases hc
theorem grown_cell {W W' : World} {row : Option Nat} (hg : W.grownBy W' row) (hr : ∀ r, row = some r → ∃ o : Obj, W.heap[r]? = some o ∧ o.isCells = false) {a : Addr} {v : Value} (h : W.cell? a = some v) : W'.cell? a = some v := by
  refine (World.cell?_of_block (hg.block a.block (World.block_lt_of_cell? W a h) (fun e => ?_))).trans h
  obtain ⟨o, ho, hc⟩ := hr a.block e.symm
  unfold World.cell? at h
  rw [ho] at h
  cases o <;> first | (simp at h; done) | (simp [Obj.isCells] at hc; done)

theorem PzM.own {W V V2 : World} {Bm R C cnt gg cap hb fb xb n : Nat} {Z : Nat → Int} {S : Nat → Prop} {G : Ix (R * C) → Prop} {f : Nat → Nat} {ob : Option Nat} {F : Nat → Bool} {row : Option Nat} (h : PzM W V Bm R C cnt gg cap hb fb xb Z S G n f ob F) (hg : V.grownBy V2 row)
    (hr : ∀ r, row = some r → ∃ o : Obj, V.heap[r]? = some o ∧ o.isCells = false) : PzM W V2 Bm R C cnt gg cap hb fb xb Z S G n f ob F := by
  refine ⟨h.hp.keep ?_ (fun b e => ?_), h.hs, h.nle, ?_, h.hF, (grown_cells hg hr h.bx).trans h.bx, (grown_cells hg hr h.lay).trans h.lay, ⟨h.rv.n_eq, Nat.lt_of_lt_of_le h.rv.lt hg.size, h.rv.le, fun i hi => grown_cell hg hr (h.rv.cell i hi)⟩, h.old, h.far, Nat.le_trans h.szW hg.size⟩
  · obtain ⟨v, a1, _⟩ := h.hp
    exact grown_cells hg hr a1
  · obtain ⟨v, _, a2⟩ := h.hp
    rcases a2 with ⟨_, _, e2⟩ | ⟨b', cap', e1, e2, e3, e4, e5, e6⟩
    · rw [e2] at e; cases e
    · rw [e2] at e; cases e
      obtain ⟨G, ⟨cs, g0, _⟩, _⟩ := e6
      exact grown_cells hg hr g0
  · obtain ⟨cs, g0, g1⟩ := h.fd
    exact ⟨cs, (grown_cells hg hr g0).trans g0, g1⟩

/-- a cell is marked as found, and pushed -/
theorem PzM.mark {W V : World} {Bm R C cnt gg cap hb fb xb n : Nat} {Z : Nat → Int} {S : Nat → Prop} {G : Ix (R * C) → Prop} {f : Nat → Nat} {ob : Option Nat} {F : Nat → Bool} (h : PzM W V Bm R C cnt gg cap hb fb xb Z S G n f ob F) (y : Nat) :
    HpW (V.setCell ⟨fb, y, none⟩ (.bool true)) hb ob Z f n ∧ (V.setCell ⟨fb, y, none⟩ (.bool true)).rowIs fb 4 cnt (fun k => .bool (if k = y then true else F k)) ∧ (V.setCell ⟨fb, y, none⟩ (.bool true)).heap[xb]? = some (.cells #[.slice (some ⟨fb, 0, none⟩) cnt cnt] 75 (0, 0)) ∧
    (V.setCell ⟨fb, y, none⟩ (.bool true)).heap[Bm]? = some (.cells #[.int .i64 R, .int .i64 C, .slice (some ⟨gg, 0, none⟩) cnt cap] 38 (0, 0)) ∧ Rv (V.setCell ⟨fb, y, none⟩ (.bool true)) R C cnt gg cap Z ∧ Below W.heap.size V (V.setCell ⟨fb, y, none⟩ (.bool true)) ∧ (V.setCell ⟨fb, y, none⟩ (.bool true)).heap.size = V.heap.size := by
  obtain ⟨h1, h2, h3, h4, h5, h6, h7⟩ := h.far
  have blk : ∀ k, k ≠ fb → (V.setCell ⟨fb, y, none⟩ (.bool true)).heap[k]? = V.heap[k]? := fun k hk => Below.heap_setCell _ _ _ _ hk
  refine ⟨h.hp.keep (blk hb h4) (fun b e => blk b (h7 b e).1), (h.fd.set y (.bool true)).congr (fun j _ => ?_), (blk xb (fun e => h6 e.symm)).trans h.bx, (blk Bm (by have := h.old.1; omega)).trans h.lay, ⟨h.rv.n_eq, by simpa [World.setCell] using h.rv.lt, h.rv.le, fun i hi => (World.cell?_of_block (a := ⟨gg, i, none⟩) (blk gg (by have := h.old.2; omega))).trans (h.rv.cell i hi)⟩,
    (Below.refl W.heap.size V).setCell (p := ⟨fb, y, none⟩) h2 _, by simp [World.setCell]⟩
  by_cases e : j = y <;> simp [e]

theorem lowI_grown {β : Type} {B : Nat} {I : β → World → Prop} (h : LowI B I) {s : β} {X Y : World} {row : Option Nat} (hs : I s X) (hl : B ≤ X.heap.size) (hg : X.grownBy Y row) (hr : ∀ r, row = some r → B ≤ r) : I s Y :=
  h s X Y hs hl ⟨hg.os, hg.tape, hg.output, hg.size, fun k hk => hg.block k (by omega) (fun e => by have := hr k e.symm; omega)⟩

theorem HpFr.others {hb n : Nat} {ob : Option Nat} {Z : Nat → Int} {f : Nat → Nat} {V V2 : World} (h : HpFr hb ob V V2) (hp : HpW V hb ob Z f n) : KeepsOthers V V2 := by
  refine ⟨h.size, fun k o hk hc => ?_⟩
  obtain ⟨v, a1, a2⟩ := hp
  refine (h.block k (lt_of_block hk) (fun e => ?_) (fun e => ?_)).trans hk
  · subst e; rw [a1] at hk; cases hk; cases hc
  · rcases a2 with ⟨_, _, e2⟩ | ⟨b, cap, _, e2, _, _, _, G, ⟨cs, g0, _⟩, _⟩
    · rw [e2] at e; cases e
    · rw [e2] at e; cases e
      rw [g0] at hk; cases hk; cases hc

/-- what a push of a new cell leaves -/
theorem PzM.push {W V V2 V3 : World} {Bm R C cnt gg cap hb fb xb n y : Nat} {Z : Nat → Int} {S : Nat → Prop} {G G' : Ix (R * C) → Prop} {f f' : Nat → Nat} {ob ob' : Option Nat} {F : Nat → Bool} (h : PzM W V Bm R C cnt gg cap hb fb xb Z S G n f ob F)
    (hk : Below V.heap.size (V.setCell ⟨fb, y, none⟩ (.bool true)) V2) (hp : HpW V3 hb ob' Z f' (n + 1)) (hs : HpS Z f' (n + 1) (fun z => S z ∨ z = y)) (hn : NewOb V2.heap.size ob ob') (hf : HpFr hb ob V2 V3) (hle : n + 1 ≤ R * C)
    (hG : ∀ x : Ix (R * C), G' x ↔ G x ∨ x.1 = y) : PzM W V3 Bm R C cnt gg cap hb fb xb Z (fun z => S z ∨ z = y) G' (n + 1) f' ob' (fun k => if k = y then true else F k) ∧ Below W.heap.size V V3 := by
  obtain ⟨m1, m2, m3, m4, m5, m6, m7⟩ := h.mark y
  obtain ⟨h1, h2, h3, h4, h5, h6, h7⟩ := h.far
  have hs2 := hk.size
  rw [m7] at hs2
  have hs3 := hf.size
  have hsW := h.szW
  have blk : ∀ k, k < V.heap.size → k ≠ hb → (∀ b, ob = some b → k ≠ b) → V3.heap[k]? = (V.setCell ⟨fb, y, none⟩ (.bool true)).heap[k]? := fun k hk1 hk2 hk3 =>
    (hf.block k (by omega) hk2 (fun e => hk3 k e.symm rfl)).trans (hk.block k hk1)
  have nb : ∀ b, ob' = some b → b ≠ fb ∧ b ≠ xb ∧ W.heap.size ≤ b := fun b e => by
    rcases hn with e2 | ⟨b', e2, hb'⟩
    · exact h7 b (by rw [← e2]; exact e)
    · rw [e2] at e; simp only [Option.some.injEq] at e
      have := h.fd.lt; have := lt_of_block h.bx
      omega
  have bel : Below W.heap.size V V3 := (m6.trans (hk.mono h.szW)).trans (hf.below (by omega) h1 (fun b e => (h7 b e).2.2))
  refine ⟨⟨hp, hs, hle, m2.of_block (blk fb h.fd.lt (fun e => h4 e.symm) (fun b e => (h7 b e).1.symm)), fun x => ?_, (blk xb (lt_of_block h.bx) (fun e => h5 e.symm) (fun b e => (h7 b e).2.1.symm)).trans m3, (blk Bm (lt_of_block h.lay) (by have := h.old.1; omega) (fun b e => by have := (h7 b e).2.2; have := h.old.1; omega)).trans m4,
    ⟨m5.n_eq, by have := h.rv.lt; omega, m5.le, fun i hi => (World.cell?_of_block (a := ⟨gg, i, none⟩) (blk gg h.rv.lt (by have := h.old.2; omega) (fun b e => by have := (h7 b e).2.2; have := h.old.2; omega))).trans (m5.cell i hi)⟩, h.old, ⟨h1, h2, h3, h4, h5, h6, nb⟩, by omega⟩, bel⟩
  rw [hG, ← h.hF x]
  by_cases e : x.1 = y
  · simp [e]
  · simp [e]

/-- another block stays through a push -/
theorem push_keeps {V V2 V3 : World} {hb fb y b0 : Nat} {ob : Option Nat} (hk : Below V.heap.size (V.setCell ⟨fb, y, none⟩ (.bool true)) V2) (hf : HpFr hb ob V2 V3) (hl : b0 < V.heap.size) (h1 : b0 ≠ hb) (h2 : b0 ≠ fb) (h3 : ∀ b, ob = some b → b ≠ b0) : V3.heap[b0]? = V.heap[b0]? := by
  have hs2 := hk.size
  have e : (V.setCell ⟨fb, y, none⟩ (.bool true)).heap.size = V.heap.size := by simp [World.setCell]
  rw [hf.block b0 (by omega) h1 (fun e => h3 b0 e.symm rfl), hk.block b0 hl, Below.heap_setCell _ _ _ _ h2]

theorem Coll.kq {B N Bm gg : Nat} {ds : List Deferred} {V V' : World} (h : Coll B N ds V) (hN : N ≤ V.heap.size) (k : KqP Bm gg B V V') : Coll B N ds V' := h.keep fun k2 o hk hB ho _ => (k.same k2 (Or.inl hB) (by omega)).trans ho

/-- the loop of the passes -/
structure PzL (W V : World) (Bm R C cnt gg cap hb fb xb : Nat) (Z : Nat → Int) (st : Ix (R * C)) (L : List (Ix (R * C) × Int)) (p : Int) (sb : Nat) (ok : Bool) (y : Nat) (S T : Nat → Prop) (n : Nat) (f : Nat → Nat) (ob : Option Nat) (F : Nat → Bool) : Prop where
  mem : PzM W V Bm R C cnt gg cap hb fb xb Z T (fun x => x ∈ L.map Prod.fst ∨ S x.1) n f ob F
  psi : PsI R C Z st L S p (fun _ _ => False)
  sp : V.heap[sb]? = some (.cells #[.int .i64 (if ok then Z y else 0), .int .i64 (if ok then y else 0 : Nat)] 60 (0, 0))
  sbf : W.heap.size ≤ sb ∧ sb ≠ hb ∧ sb ≠ fb ∧ sb ≠ xb ∧ ∀ b, ob = some b → b ≠ sb
  yes : ok = true → S y ∧ (∀ z, S z → hiB Z z y = false) ∧ ∀ z, T z ↔ S z ∧ z ≠ y
  no : ok = false → ∀ z, ¬ S z

/-- what a pop leaves, for the passes -/
structure PzO (hb : Nat) (ob : Option Nat) (Z : Nat → Int) (S : Nat → Prop) (n : Nat) (V V' : World) (ok : Bool) (y m : Nat) (f' : Nat → Nat) (T : Nat → Prop) : Prop where
  fr : HpFr hb ob V V'
  hp : HpW V' hb ob Z f' m
  hs : HpS Z f' m T
  le : m ≤ n
  yes : ok = true → S y ∧ (∀ z, S z → hiB Z z y = false) ∧ ∀ z, T z ↔ S z ∧ z ≠ y
  no : ok = false → (∀ z, ¬ S z) ∧ T = S
theorem pz_pop {V : World} {hb n : Nat} {ob : Option Nat} {Z : Nat → Int} {S : Nat → Prop} {f : Nat → Nat} (hp : HpW V hb ob Z f n) (hs : HpS Z f n S) (hn : n ≤ 49) :
    Calls Try.prog 64 #[.pointer (some ⟨hb, 0, none⟩)] V (fun e V' => ∃ ok y m f' T zy, e = .returned (.tuple #[.agg #[.int .i64 zy, .int .i64 ((if ok then y else 0 : Nat) : Int)], .bool ok]) ∧ zy = (if ok then Z y else 0) ∧ PzO hb ob Z S n V V' ok y m f' T) := by
  cases n with
  | zero =>
    refine (pop_none hb ob Z f V hp).mono ?_
    rintro e V' ⟨rfl, hb6⟩
    exact ⟨false, 0, 0, f, S, 0, rfl, rfl, HpFr.ofBelow hb6 (Nat.le_refl _), hp.keepB hb6 (Nat.le_refl _), hs, Nat.le_refl _, (fun e => by cases e), fun _ => ⟨hpS_zero hs, rfl⟩⟩
  | succ n =>
    refine (pop_any hb ob Z f n S V hp hs (by omega)).mono ?_
    rintro e V' ⟨y, f', rfl, hy, hup, hp6, hs6, hf6⟩
    exact ⟨true, y, n, f', _, Z y, rfl, rfl, hf6, hp6, hs6, Nat.le_succ _, (fun _ => ⟨hy, hup, fun z => Iff.rfl⟩), (fun e => by cases e)⟩

/-- a pop, and what is popped lies in block sb -/
theorem PzM.popped {W V V2 V3 : World} {Bm R C cnt gg cap hb fb xb n m y sb : Nat} {Z : Nat → Int} {S T : Nat → Prop} {st : Ix (R * C)} {L : List (Ix (R * C) × Int)} {p : Int} {f f' : Nat → Nat} {ob : Option Nat} {F : Nat → Bool} {ok : Bool}
    (h : PzM W V Bm R C cnt gg cap hb fb xb Z S (fun x => x ∈ L.map Prod.fst ∨ S x.1) n f ob F) (hps : PsI R C Z st L S p (fun _ _ => False)) (ho : PzO hb ob Z S n V V2 ok y m f' T)
    (h3 : ∀ k, k < V.heap.size → k ≠ sb → V3.heap[k]? = V2.heap[k]?) (hz : V2.heap.size ≤ V3.heap.size) (hsp : V3.heap[sb]? = some (.cells #[.int .i64 (if ok then Z y else 0), .int .i64 (if ok then y else 0 : Nat)] 60 (0, 0)))
    (hsb : W.heap.size ≤ sb ∧ sb ≠ hb ∧ sb ≠ fb ∧ sb ≠ xb ∧ ∀ b, ob = some b → b ≠ sb) : PzL W V3 Bm R C cnt gg cap hb fb xb Z st L p sb ok y S T m f' ob F := by
  obtain ⟨h1, h2, h3', h4, h5, h6, h7⟩ := h.far
  have hh := h.hp.far
  have hsz := ho.fr.size
  have hsW := h.szW
  have blk : ∀ k, k < V.heap.size → k ≠ hb → (∀ b, ob = some b → k ≠ b) → k ≠ sb → V3.heap[k]? = V.heap[k]? := fun k hk1 hk2 hk3 hk4 => (h3 k hk1 hk4).trans (ho.fr.block k hk1 hk2 (fun e => hk3 k e.symm rfl))
  refine ⟨⟨ho.hp.keep (h3 hb hh.1 (fun e => hsb.2.1 e.symm)) (fun b e => h3 b (hh.2 b e).2 (hsb.2.2.2.2 b e)), ho.hs, Nat.le_trans ho.le h.nle, h.fd.of_block (blk fb h.fd.lt (fun e => h4 e.symm) (fun b e => (h7 b e).1.symm) (fun e => hsb.2.2.1 e.symm)), h.hF, (blk xb (lt_of_block h.bx) (fun e => h5 e.symm) (fun b e => (h7 b e).2.1.symm) (fun e => hsb.2.2.2.1 e.symm)).trans h.bx,
    (blk Bm (lt_of_block h.lay) (by have := h.old.1; omega) (fun b e => by have := (h7 b e).2.2; have := h.old.1; omega) (by have := h.old.1; omega)).trans h.lay, ⟨h.rv.n_eq, by have := h.rv.lt; omega, h.rv.le, fun i hi => (World.cell?_of_block (a := ⟨gg, i, none⟩) (blk gg h.rv.lt (by have := h.old.2; omega) (fun b e => by have := (h7 b e).2.2; have := h.old.2; omega) (by have := h.old.2; omega))).trans (h.rv.cell i hi)⟩, h.old, h.far, by omega⟩,
    hps, hsp, hsb, ho.yes, fun e => (ho.no e).1⟩

/-- within a round of the passes: the neighbors of i in pre have been looked at -/
structure PzB (W : World) (Bm R C cnt gg cap hb fb xb : Nat) (Z : Nat → Int) (st : Ix (R * C)) (L : List (Ix (R * C) × Int)) (q : Int) (i : Ix (R * C)) (sb qb : Nat) (z : Int) (y : Nat) (pre : List (Ix (R * C))) (X : World) : Prop where
  ex : ∃ (T : Nat → Prop) (n : Nat) (f : Nat → Nat) (ob : Option Nat) (F : Nat → Bool), PzM W X Bm R C cnt gg cap hb fb xb Z T (fun x => x ∈ L.map Prod.fst ∨ T x.1) n f ob F ∧ ((∀ x ∈ pre, x ∈ near R C i 4) → PsI R C Z st L T q (Pd i pre)) ∧ (∀ y, T y → y < R * C) ∧ ∀ b, ob = some b → b ≠ sb ∧ b ≠ qb
  sp : X.heap[sb]? = some (.cells #[.int .i64 z, .int .i64 y] 60 (0, 0))
  sz : qb + 2 ≤ X.heap.size
  szW : W.heap.size ≤ X.heap.size
theorem PzB.own {W X Y : World} {Bm R C cnt gg cap hb fb xb : Nat} {Z : Nat → Int} {st : Ix (R * C)} {L : List (Ix (R * C) × Int)} {q : Int} {i : Ix (R * C)} {sb qb : Nat} {z : Int} {y : Nat} {pre : List (Ix (R * C))} {row : Option Nat} (h : PzB W Bm R C cnt gg cap hb fb xb Z st L q i sb qb z y pre X) (hg : X.grownBy Y row)
    (hr : ∀ r, row = some r → ∃ o : Obj, X.heap[r]? = some o ∧ o.isCells = false) : PzB W Bm R C cnt gg cap hb fb xb Z st L q i sb qb z y pre Y := by
  obtain ⟨⟨T, n, f, ob, F, h1, h2, h3⟩, h4, h5, h6⟩ := h
  exact ⟨⟨T, n, f, ob, F, h1.own hg hr, h2, h3⟩, (grown_cells hg hr h4).trans h4, Nat.le_trans h5 hg.size, Nat.le_trans h6 hg.size⟩
theorem pzB_ownFrom {W : World} {Bm R C cnt gg cap hb fb xb : Nat} {Z : Nat → Int} {st : Ix (R * C)} {L : List (Ix (R * C) × Int)} {q : Int} {i : Ix (R * C)} {sb qb : Nat} {z : Int} {y : Nat} {J : World → Prop} {ds : List Deferred} {B : Nat} (hJ : LowI W.heap.size (fun (_ : Unit) X => J X)) (hB : W.heap.size ≤ B) (hq : qb ≤ B) :
    OwnFrom B (fun (pre : List (Ix (R * C))) X => (PzB W Bm R C cnt gg cap hb fb xb Z st L q i sb qb z y pre X ∧ J X) ∧ Coll W.heap.size qb ds X) := fun s X Y row hs hg hr =>
  ⟨⟨hs.1.1.own hg (fun r e => (hr r e).2), lowI_grown (s := ()) hJ hs.1.2 hs.1.1.szW hg (fun r e => by have := (hr r e).1; omega)⟩, ownFrom_coll (β := Unit) hq () X Y row hs.2 hg hr⟩
theorem hpS_room {Z : Nat → Int} {f : Nat → Nat} {n M : Nat} {T : Nat → Prop} (h : HpS Z f n T) (hM : ∀ y, T y → y < M) : n ≤ M := by
  have h1 : ((List.range n).map f).Nodup := by
    unfold List.Nodup
    rw [List.pairwise_map]
    refine List.Pairwise.imp_of_mem ?_ (List.nodup_range (n := n))
    intro a b ha hb hab e
    exact hab (h.inj a b (List.mem_range.1 ha) (List.mem_range.1 hb) e)
  have h2 := nodup_le M ((List.range n).map f) h1 (fun x hx => by
    rw [List.mem_map] at hx
    obtain ⟨k, hk, rfl⟩ := hx
    exact hM _ ((h.mem _).2 ⟨k, List.mem_range.1 hk, rfl⟩))
  simpa using h2

end Go.Proofs.Ytlbdglhippapnab
