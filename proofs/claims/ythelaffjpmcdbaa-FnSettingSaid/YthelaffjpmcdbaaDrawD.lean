/- Rough grids, drawn from a code: what holds while one is made. -/
import Derived.Test.YthelaffjpmcdbaaDrawA
import Derived.Test.YthelaffjpmcdbaaM2
namespace Go.Proofs.Ythelaffjpmcdbaa
open Go.RowKit
set_option linter.unusedVariables false

theorem ownsRow_same {w w2 : World} {base : Nat} {e : TypeId} {size : Nat} {v : Value} {n : Nat} {xs : List Value} (h : w.ownsRow base e size v n xs) (hs : ∀ k, base ≤ k → k < w.heap.size → w2.heap[k]? = w.heap[k]?) : w2.ownsRow base e size v n xs := by
  obtain ⟨h1, h2⟩ := h
  refine ⟨h1, ?_⟩
  rcases h2 with h2 | ⟨g, cap, cur, hv, hg, hh, r⟩
  · exact Or.inl h2
  · exact Or.inr ⟨g, cap, cur, hv, hg, by rw [hs g hg (lt_of_block hh)]; exact hh, r⟩

/-- a world cut off behind its first n blocks -/
def trunc (w : World) (n : Nat) : World := { w with heap := w.heap.extract 0 n }
theorem trunc_size {w : World} {n : Nat} (h : n ≤ w.heap.size) : (trunc w n).heap.size = n := by simp [trunc]; omega
theorem trunc_below {w : World} {n : Nat} (h : n ≤ w.heap.size) : Below n (trunc w n) w := by
  refine ⟨rfl, rfl, rfl, by rw [trunc_size h]; exact h, fun k hk => ?_⟩
  simp [trunc, Array.getElem?_extract]
  omega

theorem Gr.rebase {w wr w1 : World} {v : Value} {k B b : Nat} {RV : Nat → Value} {g : G} (h : Gr w wr v k B RV g) (hc : Chg b (b + 1) wr w1) (hb : b < w.heap.size) :
    Gr (trunc w1 w.heap.size) w1 v k B RV g := by
  obtain ⟨a1, a2, a3, a4, a5, a6, a7⟩ := h
  have hs1 : w.heap.size ≤ w1.heap.size := by have := a1.size; have := hc.size; omega
  have hz := trunc_size hs1
  have hsame : ∀ k, w.heap.size ≤ k → k < wr.heap.size → w1.heap[k]? = wr.heap[k]? := fun k hk1 hk2 => hc.block k hk2 (by omega)
  refine ⟨by rw [hz]; exact trunc_below hs1, by omega, by have := hc.size; omega, by rw [hz]; exact ownsRow_same a4 hsame, a5, fun r hr => ?_, a7⟩
  obtain ⟨ys, c1, c2, c3⟩ := a6 r hr
  exact ⟨ys, by rw [hz]; exact ownsRow_same c1 hsame, c2, c3⟩

theorem Gr.congrV {w wr : World} {v : Value} {k B : Nat} {RV RV' : Nat → Value} {g g' : G} (h : Gr w wr v k B RV g) (e : ∀ r, r < k → RV r = RV' r ∧ g.len r = g'.len r ∧ ∀ c, c < g.len r → g.z r c = g'.z r c) : Gr w wr v k B RV' g' := by
  obtain ⟨a1, a2, a3, a4, a5, a6, a7⟩ := h
  refine ⟨a1, a2, a3, ?_, a5, fun r hr => ?_, fun r s hr hs b e1 e2 => a7 r s hr hs b (by rw [(e r hr).1]; exact e1) (by rw [(e s hs).1]; exact e2)⟩
  · have : (List.range k).map RV' = (List.range k).map RV := List.map_congr_left (fun r hr => ((e r (List.mem_range.1 hr)).1).symm)
    rw [this]; exact a4
  · obtain ⟨ys, c1, c2, c3⟩ := a6 r hr
    obtain ⟨e1, e2, e3⟩ := e r hr
    exact ⟨ys, by rw [← e1, ← e2]; exact c1, by rw [← e1]; exact c2, fun c hc => by rw [← e3 c (by omega)]; exact c3 c (by omega)⟩

/-- eight heights to choose from -/
def Hts (w : World) (hb : Nat) : Prop := ∃ H : Nat → Int, ∀ i, i < 8 → w.cell? ⟨hb, i, none⟩ = some (.int .i64 (H i)) ∧ 0 ≤ H i ∧ H i ≤ 99
theorem Hts.same {w w' : World} {hb : Nat} (h : Hts w hb) (hs : w'.heap[hb]? = w.heap[hb]?) : Hts w' hb := by
  obtain ⟨H, h⟩ := h
  exact ⟨H, fun i hi => ⟨(World.cell?_of_block (a := ⟨hb, i, none⟩) hs).trans (h i hi).1, (h i hi).2⟩⟩

/-- r rows of C columns are drawn -/
structure Dr (wc wr : World) (B q hb : Nat) (v : Value) (r Bk : Nat) (RV : Nat → Value) (g : G) (C : Nat) : Prop where
  gr : ∃ wb : World, wb.heap.size = wc.heap.size ∧ Gr wb wr v r Bk RV g
  chg : Chg B (B + 1) wc wr
  rdr : Rdr wr B q
  hts : Hts wr hb
  ok : ∀ r', r' < r → g.len r' = C ∧ ∀ c, c < C → 0 ≤ g.z r' c ∧ g.z r' c ≤ 99

theorem Dr.size {wc wr : World} {B q hb : Nat} {v : Value} {r Bk : Nat} {RV : Nat → Value} {g : G} {C : Nat} (h : Dr wc wr B q hb v r Bk RV g C) : wc.heap.size ≤ Bk ∧ Bk ≤ wr.heap.size := by
  obtain ⟨wb, e, hg⟩ := h.gr
  exact ⟨by have := hg.lo; omega, hg.hi⟩

theorem Dr.pick {wc wr w1 : World} {B q hb : Nat} {v : Value} {r Bk : Nat} {RV : Nat → Value} {g : G} {C : Nat} (h : Dr wc wr B q hb v r Bk RV g C) (hB : B < hb) (hhb : hb < wc.heap.size) (hr : Rdr w1 B (q + 1)) (hc : Chg B (B + 1) wr w1) :
    Dr wc w1 B (q + 1) hb v r Bk RV g C := by
  obtain ⟨wb, e, hg⟩ := h.gr
  have h1 := h.chg.size
  refine ⟨⟨_, ?_, hg.rebase hc (by omega)⟩, h.chg.trans hc, hr, h.hts.same (hc.block hb (by omega) (by omega)), h.ok⟩
  rw [trunc_size (by have := hc.size; omega), e]

theorem Dr.below {wc wr w1 : World} {B q hb : Nat} {v : Value} {r Bk : Nat} {RV : Nat → Value} {g : G} {C : Nat} (h : Dr wc wr B q hb v r Bk RV g C) (hB : B < hb) (hhb : hb < wc.heap.size) (hb1 : Below Bk wr w1) :
    Dr wc w1 B q hb v r Bk RV g C := by
  obtain ⟨wb, e, hg⟩ := h.gr
  have h0 := h.size
  exact ⟨⟨wb, e, hg.keep hb1⟩, ⟨hb1.os.trans h.chg.os, hb1.tape.trans h.chg.tape, hb1.output.trans h.chg.output, Nat.le_trans h.chg.size hb1.size, fun k h1 h2 => (hb1.block k (by omega)).trans (h.chg.block k h1 h2)⟩,
    h.rdr.keep hb1 (by omega), h.hts.same (hb1.block hb (by omega)), h.ok⟩

theorem Dr.raise {wc wr : World} {B q hb : Nat} {v : Value} {r Bk Bk' : Nat} {RV : Nat → Value} {g : G} {C : Nat} (h : Dr wc wr B q hb v r Bk RV g C) (h1 : Bk ≤ Bk') (h2 : Bk' ≤ wr.heap.size) : Dr wc wr B q hb v r Bk' RV g C := by
  obtain ⟨wb, e, hg⟩ := h.gr
  exact ⟨⟨wb, e, hg.raise h1 h2⟩, h.chg, h.rdr, h.hts, h.ok⟩

/-- a row of m heights is drawn -/
def Rd (B : Nat) (wr : World) (v : Value) (m : Nat) : Prop := ∃ Z, Rw B wr v m Z ∧ ∀ i, i < m → 0 ≤ Z i ∧ Z i ≤ 99

theorem Rd.pick {Bk b : Nat} {wr w1 : World} {v : Value} {m : Nat} (h : Rd Bk wr v m) (hc : Chg b (b + 1) wr w1) (hb : b < Bk) : Rd Bk w1 v m := by
  obtain ⟨Z, ⟨ys, h1, h2⟩, h3⟩ := h
  exact ⟨Z, ⟨ys, ownsRow_same h1 (fun k hk1 hk2 => hc.block k hk2 (by omega)), h2⟩, h3⟩

theorem Rd.push {B : Nat} {w1 : World} {v' : Value} {m : Nat} {Z : Nat → Int} {ys : List Value} {x : Int} (hy : ys.length = m) (hv : ∀ i, i < m → ys[i]? = some (.int .i64 (Z i))) (hz : ∀ i, i < m → 0 ≤ Z i ∧ Z i ≤ 99) (hx : 0 ≤ x ∧ x ≤ 99)
    (hown : w1.ownsRow B 3 1 v' (m + 1) (ys ++ [.int .i64 x])) : Rd B w1 v' (m + 1) := by
  refine ⟨fun i => if i = m then x else Z i, Rw.push hy (fun i hi => ?_) (by simpa using hown), fun i hi => ?_⟩
  · have : i ≠ m := by omega
    simp only [this, if_false]; exact hv i hi
  · by_cases e : i = m
    · simp only [e, if_true]; exact hx
    · simp only [e, if_false]; exact hz i (by omega)

theorem Dr.push {wc wr w1 : World} {B q hb : Nat} {v v' rv : Value} {r Bk : Nat} {RV : Nat → Value} {g : G} {C : Nat} {o : Obj} (h : Dr wc wr B q hb v r Bk RV g C) (hB : B < hb) (hhb : hb < wc.heap.size) (hr : Rd Bk wr rv C)
    (hown : w1.ownsRow wc.heap.size 26 1 v' (r + 1) ((List.range r).map RV ++ [rv])) (hg1 : (wr.alloc o).grownBy w1 v.ownBlock) :
    ∃ RV' g', Dr wc w1 B q hb v' (r + 1) w1.heap.size RV' g' C := by
  obtain ⟨wb, e, hg⟩ := h.gr
  obtain ⟨Z, hrw, hz⟩ := hr
  have h0 := h.size
  have hlow : ∀ b, v.ownBlock = some b → wc.heap.size ≤ b := fun b hb => by have := (hg.top.lt b hb).1; omega
  have hbel : Below wc.heap.size wr w1 := ((Below.refl wc.heap.size wr).alloc (by omega) o).grown hg1 (by simp; omega) hlow
  refine ⟨fun s => if s = r then rv else RV s, ⟨g.n, fun s => if s = r then C else g.len s, fun s => if s = r then Z else g.z s⟩, ⟨⟨wb, e, ?_⟩, ?_, ?_, ?_, ?_⟩⟩
  · have hg2 : Gr wb wr v r Bk RV ⟨g.n, fun s => if s = r then C else g.len s, fun s => if s = r then Z else g.z s⟩ := hg.congrV (fun s hs => by
      have : s ≠ r := by omega
      simp [this])
    exact hg2.push (by simpa using hrw) (by rw [e]; exact hown) hg1
  · exact ⟨hbel.os.trans h.chg.os, hbel.tape.trans h.chg.tape, hbel.output.trans h.chg.output, Nat.le_trans h.chg.size hbel.size, fun k h1 h2 => (hbel.block k h1).trans (h.chg.block k h1 h2)⟩
  · exact h.rdr.keep hbel (by omega)
  · exact h.hts.same (hbel.block hb hhb)
  · intro s hs
    by_cases e2 : s = r
    · simp only [e2, if_true]; exact ⟨trivial, fun c hc => hz c hc⟩
    · simp only [e2, if_false]; exact h.ok s (by omega)

end Go.Proofs.Ythelaffjpmcdbaa

/- Rough grids, drawn from a code. -/
namespace Go.Proofs.Ythelaffjpmcdbaa
open Go.RowKit
set_option linter.unusedVariables false

theorem hts_of {w : World} {hb : Nat} {t : TypeId} {x0 x1 x2 x3 x4 x5 x6 x7 : Int} (h : w.heap[hb]? = some (.cells #[.int .i64 x0, .int .i64 x1, .int .i64 x2, .int .i64 x3, .int .i64 x4, .int .i64 x5, .int .i64 x6, .int .i64 x7] t (0, 0)))
    (r : (0 ≤ x0 ∧ x0 ≤ 99) ∧ (0 ≤ x1 ∧ x1 ≤ 99) ∧ (0 ≤ x2 ∧ x2 ≤ 99) ∧ (0 ≤ x3 ∧ x3 ≤ 99) ∧ (0 ≤ x4 ∧ x4 ≤ 99) ∧ (0 ≤ x5 ∧ x5 ≤ 99) ∧ (0 ≤ x6 ∧ x6 ≤ 99) ∧ (0 ≤ x7 ∧ x7 ≤ 99)) : Hts w hb := by
  obtain ⟨r0, r1, r2, r3, r4, r5, r6, r7⟩ := r
  refine ⟨fun i => [x0, x1, x2, x3, x4, x5, x6, x7].getD i 0, fun i hi => ?_⟩
  have hi' : i = 0 ∨ i = 1 ∨ i = 2 ∨ i = 3 ∨ i = 4 ∨ i = 5 ∨ i = 6 ∨ i = 7 := by omega
  rcases hi' with rfl | rfl | rfl | rfl | rfl | rfl | rfl | rfl <;> exact ⟨by simp [World.cell?, h], by assumption⟩

theorem _root_.Go.RowKit.Below.chg {w w1 : World} (h : Below w.heap.size w w1) (lo hi : Nat) : Chg lo hi w w1 := ⟨h.os, h.tape, h.output, h.size, fun k hk _ => h.block k hk⟩

theorem Dr.start (wc : World) (B q hb C : Nat) (hB : B < wc.heap.size) (hr : Rdr wc B q) (hh : Hts wc hb) (hhb : hb < wc.heap.size) :
    Dr wc (wc.alloc (.cells #[] 26)) B q hb (.slice (some ⟨wc.heap.size, 0, none⟩) 0 0) 0 (wc.heap.size + 1) (fun _ => undef) G0 C := by
  have hb0 : Below wc.heap.size wc (wc.alloc (.cells #[] 26)) := (Below.refl _ _).alloc (Nat.le_refl _) _
  exact ⟨⟨wc, rfl, Gr.start wc (fun _ => undef) G0⟩, ⟨rfl, rfl, rfl, hb0.size, fun k h1 _ => hb0.block k h1⟩, hr.keep hb0 hB, hh.same (hb0.block hb hhb), fun r hr => by omega⟩

theorem Rd.start (wr : World) : Rd wr.heap.size (wr.alloc (.cells #[] 3)) (.slice (some ⟨wr.heap.size, 0, none⟩) 0 0) 0 := ⟨fun _ => 0, Rw.start wr (fun _ => 0), fun i hi => by omega⟩

/-- rows in blocks of their own, each with a column at least -/
structure Flt (w : World) (v : Value) (k bt cap : Nat) (Bf Cf : Nat → Nat) (g : G) : Prop where
  v_eq : v = .slice (some ⟨bt, 0, none⟩) k cap
  le : k ≤ cap ∧ cap ≤ 9223372036854775807
  lt : bt < w.heap.size
  top : ∀ r, r < k → w.cell? ⟨bt, r, none⟩ = some (.slice (some ⟨Bf r, 0, none⟩) (g.len r) (Cf r)) ∧ w.frozen? ⟨bt, r, none⟩ = false
  row : ∀ r, r < k → Bf r ≠ bt ∧ Bf r < w.heap.size ∧ g.len r ≤ Cf r ∧ Cf r ≤ 9223372036854775807 ∧ ∀ c, c < g.len r → w.cell? ⟨Bf r, c, none⟩ = some (.int .i64 (g.z r c)) ∧ w.frozen? ⟨Bf r, c, none⟩ = false
  inj : ∀ r s, r < k → s < k → Bf r = Bf s → r = s

theorem Gr.flt {w wr : World} {v : Value} {k B : Nat} {RV : Nat → Value} {g : G} (h : Gr w wr v k B RV g) (hk : 0 < k) (hl : ∀ r, r < k → 0 < g.len r) :
    ∃ bt cap Bf Cf, Flt wr v k bt cap Bf Cf g ∧ w.heap.size ≤ bt ∧ ∀ r, r < k → RV r = .slice (some ⟨Bf r, 0, none⟩) (g.len r) (Cf r) ∧ w.heap.size ≤ Bf r := by
  obtain ⟨a1, a2, a3, a4, a5, a6, a7⟩ := h
  obtain ⟨bt, cap, hn, hm, h3⟩ := own_slice a4
  rcases h3 with ⟨hv, hob, hb, hlt, hc⟩ | ⟨hv, h0⟩
  case inr => omega
  have hrow : ∀ r, r < k → ∃ y : Nat × Nat, RV r = .slice (some ⟨y.1, 0, none⟩) (g.len r) y.2 ∧ y.1 ≠ bt ∧ y.1 < wr.heap.size ∧ g.len r ≤ y.2 ∧ y.2 ≤ 9223372036854775807 ∧ w.heap.size ≤ y.1 ∧ ∀ c, c < g.len r → wr.cell? ⟨y.1, c, none⟩ = some (.int .i64 (g.z r c)) ∧ wr.frozen? ⟨y.1, c, none⟩ = false := fun r hr => by
    obtain ⟨ys, c1, c2, c3⟩ := a6 r hr
    have hap := ownsRow_apart c1 a4 (by decide)
    obtain ⟨br, cr, hn', hm', h3'⟩ := own_slice c1
    rcases h3' with ⟨hv', hob', hb', hlt', hc'⟩ | ⟨hv', h0'⟩
    · refine ⟨(br, cr), hv', fun e => ?_, hlt', hn', hm', hb', fun c hcc => ⟨by rw [(hc' c hcc).1]; exact c3 c hcc, (hc' c hcc).2⟩⟩
      rcases hap with e2 | e2
      · rw [hob'] at e2; cases e2
      · apply e2; rw [hob', hob]; exact congrArg some e
    · have := hl r hr; omega
  obtain ⟨y, hy⟩ := Go.Deep.choose_lt hrow
  refine ⟨bt, cap, fun r => (y r).1, fun r => (y r).2, ⟨hv, ⟨hn, hm⟩, hlt, fun r hr => ⟨?_, (hc r hr).2⟩, fun r hr => ?_, fun r s hr hs e => ?_⟩, hb, fun r hr => ⟨(hy r hr).1, (hy r hr).2.2.2.2.2.1⟩⟩
  · rw [(hc r hr).1, ← (hy r hr).1]; simp [hr]
  · obtain ⟨b1, b2, b3, b4, b5, b6, b7⟩ := hy r hr
    exact ⟨b2, b3, b4, b5, b7⟩
  · refine a7 r s hr hs (y r).1 ?_ ?_
    · rw [(hy r hr).1]; rfl
    · rw [(hy s hs).1]; exact congrArg some e.symm

theorem Flt.rdM {w : World} {v : Value} {k bt cap lo : Nat} {Bf Cf : Nat → Nat} {g : G} (h : Flt w v k bt cap Bf Cf g) (hlo : lo ≤ bt ∧ ∀ r, r < k → lo ≤ Bf r) (hg : g.n = k) (hz : ∀ r, r < k → ∀ c, c < g.len r → -9223372036854775808 ≤ g.z r c ∧ g.z r c ≤ 9223372036854775807) : RdM lo w.heap.size w v g := by
  subst hg
  refine ⟨_, cap, bt, 0, fun r => some ⟨Bf r, 0, none⟩, Cf, h.v_eq, h.le.1, h.le.2, fun _ => ⟨rfl, hlo.1, h.lt⟩, fun r hr => by rw [Nat.zero_add]; exact (h.top r hr).1, fun r hr => ?_⟩
  obtain ⟨b1, b2, b3, b4, b5⟩ := h.row r hr
  exact ⟨_, Cf r, Bf r, 0, rfl, b3, b4, hz r hr, fun _ => ⟨rfl, hlo.2 r hr, b2⟩, fun c hc => by rw [Nat.zero_add]; exact (b5 c hc).1⟩

/-- one number of one row is another one -/
theorem Flt.set {w : World} {v : Value} {k bt cap : Nat} {Bf Cf : Nat → Nat} {g : G} (h : Flt w v k bt cap Bf Cf g) (r0 c0 : Nat) (hr0 : r0 < k) (hc0 : c0 < g.len r0) (y : Int) :
    Flt (w.setCell ⟨Bf r0, c0, none⟩ (.int .i64 y)) v k bt cap Bf Cf ⟨g.n, g.len, fun r c => if r = r0 ∧ c = c0 then y else g.z r c⟩ := by
  obtain ⟨b1, b2, b3, b4, b5⟩ := h.row r0 hr0
  refine ⟨h.v_eq, h.le, by simpa [World.setCell] using h.lt, fun r hr => ⟨?_, by rw [World.frozen?_setCell]; exact (h.top r hr).2⟩, fun r hr => ?_, h.inj⟩
  · rw [World.cell?_setCell_other _ _ _ _ (by intro e; simp only [Addr.mk.injEq] at e; exact b1 (by first | exact e.1 | exact e.1.symm))]; exact (h.top r hr).1
  · obtain ⟨d1, d2, d3, d4, d5⟩ := h.row r hr
    refine ⟨d1, by simpa [World.setCell] using d2, d3, d4, fun c hc => ⟨?_, by rw [World.frozen?_setCell]; exact (d5 c hc).2⟩⟩
    by_cases e : r = r0 ∧ c = c0
    · obtain ⟨rfl, rfl⟩ := e
      simp only [and_self, if_true]
      exact World.cell?_setCell_same' _ _ _ (by rw [(d5 c hc).1]; rfl)
    · simp only [e, if_false]
      rw [World.cell?_setCell_other _ _ _ _ (by
        intro e2; simp only [Addr.mk.injEq] at e2
        apply e
        have h3 : r = r0 := h.inj r r0 hr hr0 (by first | exact e2.1 | exact e2.1.symm)
        exact ⟨h3, by first | exact e2.2.1 | exact e2.2.1.symm⟩)]
      exact (d5 c hc).1

/-- one row is another one, in a block that is no other's -/
theorem Flt.setRow {w0 w : World} {v : Value} {k bt cap : Nat} {Bf Cf : Nat → Nat} {g : G} (h : Flt w0 v k bt cap Bf Cf g) (hs : w0.heap.size ≤ w.heap.size) (hbt : w.heap[bt]? = w0.heap[bt]?) (r0 b' l' cap' : Nat) (Z : Nat → Int) (hr0 : r0 < k) (h1 : b' ≠ bt) (h2 : b' < w.heap.size) (h3 : l' ≤ cap' ∧ cap' ≤ 9223372036854775807)
    (h4 : ∀ c, c < l' → w.cell? ⟨b', c, none⟩ = some (.int .i64 (Z c)) ∧ w.frozen? ⟨b', c, none⟩ = false) (h5 : ∀ r, r < k → r ≠ r0 → Bf r ≠ b') (h6 : ∀ r, r < k → r ≠ r0 → w.heap[Bf r]? = w0.heap[Bf r]?) :
    Flt (w.setCell ⟨bt, r0, none⟩ (.slice (some ⟨b', 0, none⟩) l' cap')) v k bt cap (fun r => if r = r0 then b' else Bf r) (fun r => if r = r0 then cap' else Cf r) ⟨g.n, fun r => if r = r0 then l' else g.len r, fun r => if r = r0 then Z else g.z r⟩ := by
  have hf : ∀ b c, w.heap[b]? = w0.heap[b]? → w.frozen? ⟨b, c, none⟩ = w0.frozen? ⟨b, c, none⟩ := fun b c e => by simp only [World.frozen?, e]
  have htop : ∀ r, r < k → w.cell? ⟨bt, r, none⟩ = some (.slice (some ⟨Bf r, 0, none⟩) (g.len r) (Cf r)) ∧ w.frozen? ⟨bt, r, none⟩ = false := fun r hr => ⟨(World.cell?_of_block (a := ⟨bt, r, none⟩) hbt).trans (h.top r hr).1, (hf _ _ hbt).trans (h.top r hr).2⟩
  have hrow : ∀ r, r < k → r ≠ r0 → Bf r ≠ bt ∧ Bf r < w.heap.size ∧ g.len r ≤ Cf r ∧ Cf r ≤ 9223372036854775807 ∧ ∀ c, c < g.len r → w.cell? ⟨Bf r, c, none⟩ = some (.int .i64 (g.z r c)) ∧ w.frozen? ⟨Bf r, c, none⟩ = false := fun r hr hne => by
    obtain ⟨d1, d2, d3, d4, d5⟩ := h.row r hr
    have e := h6 r hr hne
    exact ⟨d1, by omega, d3, d4, fun c hc => ⟨(World.cell?_of_block (a := ⟨Bf r, c, none⟩) e).trans (d5 c hc).1, (hf _ _ e).trans (d5 c hc).2⟩⟩
  have hblt : bt < w.heap.size := Nat.lt_of_lt_of_le h.lt hs
  have hfar : ∀ (b c : Nat), b ≠ bt → (w.setCell ⟨bt, r0, none⟩ (.slice (some ⟨b', 0, none⟩) l' cap')).cell? ⟨b, c, none⟩ = w.cell? ⟨b, c, none⟩ := fun b c hb =>
    World.cell?_setCell_other _ _ _ _ (by intro e; simp only [Addr.mk.injEq] at e; exact hb (by first | exact e.1 | exact e.1.symm))
  refine ⟨h.v_eq, h.le, by simpa [World.setCell] using hblt, fun r hr => ⟨?_, by rw [World.frozen?_setCell]; exact (htop r hr).2⟩, fun r hr => ?_, fun r s hr hs e => ?_⟩
  · by_cases e : r = r0
    · subst e
      simp only [if_true]
      exact World.cell?_setCell_same' _ _ _ (by rw [(htop r hr).1]; rfl)
    · simp only [e, if_false]
      rw [World.cell?_setCell_other _ _ _ _ (by intro e2; simp only [Addr.mk.injEq] at e2; exact e (by first | exact e2.2.1 | exact e2.2.1.symm))]
      exact (htop r hr).1
  · by_cases e : r = r0
    · subst e
      simp only [if_true]
      exact ⟨h1, by simpa [World.setCell] using h2, h3.1, h3.2, fun c hc => ⟨by rw [hfar _ _ h1]; exact (h4 c hc).1, by rw [World.frozen?_setCell]; exact (h4 c hc).2⟩⟩
    · obtain ⟨d1, d2, d3, d4, d5⟩ := hrow r hr e
      simp only [e, if_false]
      exact ⟨d1, by simpa [World.setCell] using d2, d3, d4, fun c hc => ⟨by rw [hfar _ _ d1]; exact (d5 c hc).1, by rw [World.frozen?_setCell]; exact (d5 c hc).2⟩⟩
  · by_cases e1 : r = r0 <;> by_cases e2 : s = r0
    · omega
    · simp only [e1, e2, if_true, if_false] at e; exact absurd e.symm (h5 s hs e2)
    · simp only [e1, e2, if_true, if_false] at e; exact absurd e (h5 r hr e1)
    · simp only [e1, e2, if_false] at e; exact h.inj r s hr hs e

theorem Flt.keep {w w' : World} {v : Value} {k bt cap : Nat} {Bf Cf : Nat → Nat} {g : G} (h : Flt w v k bt cap Bf Cf g) (hs : w.heap.size ≤ w'.heap.size) (hb : w'.heap[bt]? = w.heap[bt]?) (hr : ∀ r, r < k → w'.heap[Bf r]? = w.heap[Bf r]?) : Flt w' v k bt cap Bf Cf g := by
  have hf : ∀ b c, w'.heap[b]? = w.heap[b]? → w'.frozen? ⟨b, c, none⟩ = w.frozen? ⟨b, c, none⟩ := fun b c e => by simp only [World.frozen?, e]
  refine ⟨h.v_eq, h.le, Nat.lt_of_lt_of_le h.lt hs, fun r h' => ⟨(World.cell?_of_block (a := ⟨bt, r, none⟩) hb).trans (h.top r h').1, (hf _ _ hb).trans (h.top r h').2⟩, fun r h' => ?_, h.inj⟩
  obtain ⟨d1, d2, d3, d4, d5⟩ := h.row r h'
  exact ⟨d1, by omega, d3, d4, fun c hc => ⟨(World.cell?_of_block (a := ⟨Bf r, c, none⟩) (hr r h')).trans (d5 c hc).1, (hf _ _ (hr r h')).trans (d5 c hc).2⟩⟩

theorem row_app {w2 w3 : World} {o : Obj} {b1 n cp g' cap' base bt i e : Nat} {xs : List Value} {x : Value} (hown : w3.ownsRow base e 1 (.slice (some ⟨g', 0, none⟩) (n + 1) cap') (n + 1) xs) (hg : (w2.alloc o).grownBy w3 (Value.slice (some ⟨b1, 0, none⟩) n cp).ownBlock)
    (hat : (Value.slice (some ⟨b1, 0, none⟩) n cp).ownBlock = some g' ∨ g' = w2.heap.size + 1) (hbt : bt < w2.heap.size) (hne : b1 ≠ bt) (ht : w2.cell? ⟨bt, i, none⟩ = some x ∧ w2.frozen? ⟨bt, i, none⟩ = false) :
    (w3.cell? ⟨bt, i, none⟩ = some x ∧ w3.frozen? ⟨bt, i, none⟩ = false) ∧ (∀ k, k < w2.heap.size → k ≠ b1 → w3.heap[k]? = w2.heap[k]?) ∧ w2.heap.size + 1 ≤ w3.heap.size ∧ (g' = b1 ∨ g' = w2.heap.size + 1) ∧ (n + 1 ≤ cap' ∧ cap' ≤ 9223372036854775807) ∧ g' < w3.heap.size ∧
      ∀ c, c < n + 1 → w3.cell? ⟨g', c, none⟩ = xs[c]? ∧ w3.frozen? ⟨g', c, none⟩ = false := by
  have hg' : (w2.alloc o).grownBy w3 (some b1) := hg
  have hsz := hg'.size
  simp only [World.size_alloc] at hsz
  have hblk : ∀ k, k < w2.heap.size → k ≠ b1 → w3.heap[k]? = w2.heap[k]? := fun k hk hne => (hg'.block k (by simp only [World.size_alloc]; omega) (fun e => hne (Option.some.inj e))).trans (Below.heap_alloc w2 _ k hk)
  have hb := hblk bt hbt (fun e => hne e.symm)
  have hfr : w3.frozen? ⟨bt, i, none⟩ = w2.frozen? ⟨bt, i, none⟩ := by simp only [World.frozen?, hb]
  have hat' : g' = b1 ∨ g' = w2.heap.size + 1 := hat.imp_left (fun e => (Option.some.inj e).symm)
  obtain ⟨b', cap2, hn', hm', h3⟩ := own_slice hown
  rcases h3 with ⟨hv', _, hb', hlt', hc'⟩ | ⟨hv', _⟩
  · simp only [Value.slice.injEq, Option.some.injEq, Addr.mk.injEq] at hv'
    obtain ⟨⟨rfl, _⟩, _, rfl⟩ := hv'
    exact ⟨⟨(World.cell?_of_block (a := ⟨bt, i, none⟩) hb).trans ht.1, hfr.trans ht.2⟩, hblk, hsz, hat', ⟨hn', hm'⟩, hlt', hc'⟩
  · cases hv'

theorem Chg.then_below {lo hi B : Nat} {w w2 x : World} (h : Chg lo hi w w2) (hb : Below B w2 x) (hB : w.heap.size ≤ B) : Chg lo hi w x :=
  ⟨hb.os.trans h.os, hb.tape.trans h.tape, hb.output.trans h.output, Nat.le_trans h.size hb.size, fun k h1 h2 => (hb.block k (by omega)).trans (h.block k h1 h2)⟩

def Lst (i : Nat) : Int := [-1, 100, 99].getD i 0
theorem lst_cell {w : World} {b y : Nat} {t : TypeId} (h : w.heap[b]? = some (.cells #[.int .i64 (-1), .int .i64 100, .int .i64 99] t (0, 0))) (hy : y < 3) : w.cell? ⟨b, y, none⟩ = some (.int .i64 (Lst y)) := by
  have : y = 0 ∨ y = 1 ∨ y = 2 := by omega
  rcases this with rfl | rfl | rfl <;> simp [World.cell?, h, Lst]
theorem lst_range (y : Nat) (hy : y < 3) : -1 ≤ Lst y ∧ Lst y ≤ 100 := by
  have : y = 0 ∨ y = 1 ∨ y = 2 := by omega
  rcases this with rfl | rfl | rfl <;> simp [Lst]

/-- what the call within the region leaves of the grid -/
theorem call_facts {w2 W w5 : World} {B bt b0 : Nat} {x0 x1 : Value} (hW : ∀ k, k < w2.heap.size → W.heap[k]? = w2.heap[k]?) (hs : w2.heap.size ≤ W.heap.size) (hc : Chg B (B + 1) W w5) (hbt : bt < w2.heap.size) (hb0 : b0 < w2.heap.size) (h1 : B < bt) (h2 : B < b0)
    (c1 : w2.cell? ⟨bt, 0, none⟩ = some x0) (c2 : w2.cell? ⟨b0, 0, none⟩ = some x1) (f2 : w2.frozen? ⟨b0, 0, none⟩ = false) :
    w5.cell? ⟨bt, 0, none⟩ = some x0 ∧ (∀ o, (w5.alloc o).cell? ⟨bt, 0, none⟩ = some x0) ∧ w5.cell? ⟨b0, 0, none⟩ = some x1 ∧ (∀ o, (w5.alloc o).cell? ⟨b0, 0, none⟩ = some x1) ∧ w5.frozen? ⟨b0, 0, none⟩ = false ∧ (∀ o, (w5.alloc o).frozen? ⟨b0, 0, none⟩ = false) ∧ w2.heap.size ≤ w5.heap.size := by
  have hk : ∀ k, k < w2.heap.size → k ≠ B → w5.heap[k]? = w2.heap[k]? := fun k h hn => (hc.block k (by omega) (by omega)).trans (hW k h)
  have hk2 : ∀ o k, k < w2.heap.size → k ≠ B → (w5.alloc o).heap[k]? = w2.heap[k]? := fun o k h hn => (Below.heap_alloc w5 o k (by have := hc.size; omega)).trans (hk k h hn)
  have e1 := hk bt hbt (by omega)
  have e2 := hk b0 hb0 (by omega)
  refine ⟨(World.cell?_of_block (a := ⟨bt, 0, none⟩) e1).trans c1, fun o => (World.cell?_of_block (a := ⟨bt, 0, none⟩) (hk2 o bt hbt (by omega))).trans c1, (World.cell?_of_block (a := ⟨b0, 0, none⟩) e2).trans c2, fun o => (World.cell?_of_block (a := ⟨b0, 0, none⟩) (hk2 o b0 hb0 (by omega))).trans c2, ?_, fun o => ?_, by have := hc.size; omega⟩
  · have : w5.frozen? ⟨b0, 0, none⟩ = w2.frozen? ⟨b0, 0, none⟩ := by simp only [World.frozen?, e2]
    exact this.trans f2
  · have : (w5.alloc o).frozen? ⟨b0, 0, none⟩ = w2.frozen? ⟨b0, 0, none⟩ := by simp only [World.frozen?, hk2 o b0 hb0 (by omega)]
    exact this.trans f2

theorem cell_far1 {w : World} {b c b' c' : Nat} {v : Value} (h : b ≠ b') : (w.setCell ⟨b', c', none⟩ v).cell? ⟨b, c, none⟩ = w.cell? ⟨b, c, none⟩ :=
  World.cell?_setCell_other _ _ _ _ (by intro e; simp only [Addr.mk.injEq] at e; exact h (by first | exact e.1 | exact e.1.symm))

/-- rows of a drawn grid: none is shorter than the first, and the heights are few -/
def GrShape (g : G) : Prop := ∀ r, r < g.n → g.len r ≤ 9 ∧ (1 ≤ g.len r ∧ g.len 0 ≤ g.len r) ∧ ∀ c, c < g.len r → -1 ≤ g.z r c ∧ g.z r c ≤ 100

/-- what a drawn grid leaves -/
def DrawPost (B q n : Nat) (w : World) (e : Ending) (w' : World) : Prop :=
  ∃ v g, e = .returned v ∧ (∃ a l c, v = .slice a l c) ∧ RdM (B + 1) w'.heap.size w' v g ∧ g.n = n ∧ GrShape g ∧ (∃ q', q' ≤ q + 200 ∧ Rdr w' B q') ∧ Chg B (B + 1) w w'

theorem draw_end {w w2 X : World} {B q q' r C bt cap y : Nat} {Bf Cf : Nat → Nat} {g : G} (hfl : Flt w2 (.slice (some ⟨bt, 0, none⟩) r cap) r bt cap Bf Cf g) (hok : ∀ r', r' < r → g.len r' = C ∧ ∀ c, c < C → 0 ≤ g.z r' c ∧ g.z r' c ≤ 99) (hr1 : 0 < r) (hC : C ≤ 8) (hC1 : 1 ≤ C)
    (hX : ∀ k, k < w2.heap.size → k ≠ B → X.heap[k]? = w2.heap[k]?) (hs : w2.heap.size ≤ X.heap.size) (hrd : Rdr X B (q' + 2)) (hq : q' + 2 ≤ q + 200) (hch : Chg B (B + 1) w X) (hB : w.heap.size ≤ Bf 0) (hBw : B < w.heap.size) (hBr : ∀ s, s < r → B < Bf s) (hbt : B < bt) (hy : y < 3) :
    DrawPost B q r w (.returned (.slice (some ⟨bt, 0, none⟩) r cap)) (X.setCell ⟨Bf 0, 0, none⟩ (.int .i64 (Lst y))) := by
  have h1 := (hfl.keep (w' := X) hs (hX bt hfl.lt (by omega)) (fun s hs => hX _ (hfl.row s hs).2.1 (by have := hBr s hs; omega))).set 0 0 hr1 (by have := (hok 0 hr1).1; omega) (Lst y)
  have hl := lst_range y hy
  refine ⟨_, ⟨r, g.len, fun s c => if s = 0 ∧ c = 0 then Lst y else g.z s c⟩, rfl, ⟨_, _, _, rfl⟩, Flt.rdM ⟨h1.v_eq, h1.le, h1.lt, h1.top, h1.row, h1.inj⟩ ⟨hbt, hBr⟩ rfl (fun s hs c hc => ?_), rfl, fun s hs => ⟨by have := (hok s hs).1; simp only; omega, ⟨by have := (hok s hs).1; simp only; omega, by have := (hok s hs).1; have := (hok 0 hr1).1; simp only; omega⟩, fun c hc => by have h3 := (hok s hs).2 c (by have := (hok s hs).1; simp only at hc; omega); simp only; split <;> omega⟩, ⟨q' + 2, hq, ?_⟩, ?_⟩
  · have h2 := hok s hs
    have := h2.2 c (by simp only at hc; omega)
    simp only
    split <;> omega
  · exact hrd.keep ((Below.refl (B + 1) X).setCell (p := ⟨Bf 0, 0, none⟩) (by show B + 1 ≤ Bf 0; omega) _) (Nat.lt_succ_self _)
  · exact Chg.then_below hch ((Below.refl w.heap.size X).setCell (p := ⟨Bf 0, 0, none⟩) hB _) (Nat.le_refl _)

end Go.Proofs.Ythelaffjpmcdbaa

/- The draws of the promises' laws: a grid; a grid and a number. -/
namespace Go.Proofs.Ythelaffjpmcdbaa
open Go.RowKit
set_option linter.unusedVariables false

/-- what a draw of a grid leaves -/
def GridPost (B q : Nat) (w : World) (e : Ending) (w' : World) : Prop :=
  ∃ v g, e = .returned v ∧ (∃ a l c, v = .slice a l c) ∧ RdM (B + 1) w'.heap.size w' v g ∧ (1 ≤ g.n ∧ g.n ≤ 5) ∧ GrShape g ∧ (∃ q', q' ≤ q + 210 ∧ Rdr w' B q') ∧ Chg B (B + 1) w w'

/-- what a drawn grid for a law leaves -/
def DrPost (w : World) (e : Ending) (w' : World) : Prop :=
  ∃ v g, e = .returned v ∧ (∃ a l c, v = .slice a l c) ∧ RdM 0 w'.heap.size w' v g ∧ (1 ≤ g.n ∧ g.n ≤ 5) ∧ (∀ r, r < g.n → g.len r ≤ 9) ∧ Below w.heap.size w w'

theorem chg_below {w w1 w' : World} (h1 : Below w.heap.size w w1) (h2 : Chg w.heap.size (w.heap.size + 1) w1 w') : Below w.heap.size w w' :=
  h1.trans (h2.below (Nat.le_refl _) h1.size)

end Go.Proofs.Ythelaffjpmcdbaa
