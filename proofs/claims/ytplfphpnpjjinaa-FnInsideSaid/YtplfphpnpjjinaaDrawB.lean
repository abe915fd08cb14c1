/- Rough grids, drawn from a code: what holds while one is made. -/
import Derived.Test.YtplfphpnpjjinaaDrawA
import Derived.Test.YtplfphpnpjjinaaM2
namespace Go.Proofs.Ytplfphpnpjjinaa
open Go.RowKit
set_option linter.unusedVariables false

theorem ownsRow_same {w w2 : World} {base : Nat} {e : TypeId} {size : Nat} {v : Value} {n : Nat} {xs : List Value} (h : w.ownsRow base e size v n xs) (hs : ∀ k, base ≤ k → k < w.heap.size → w2.heap[k]? = w.heap[k]?) : w2.ownsRow base e size v n xs := by
  obtain ⟨h1, h2⟩ := h
  refine ⟨h1, ?_⟩
  rcases h2 with h2 | ⟨g, cap, cur, hv, hg, hh, r⟩
  · exact Or.inl h2
  · exact Or.inr ⟨g, cap, cur, hv, hg, by rw [hs g hg (lt_of_block hh)]; exact hh, r⟩

/-- a world cut off behind its first n blocks -/
def trunc (w : World) (n : Nat) : World := { w with heap := w.heap.extract 0 n }
theorem trunc_size {w : World} {n : Nat} (h : n ≤ w.heap.size) : (trunc w n).heap.size = n := by simp [trunc]; omega
theorem trunc_below {w : World} {n : Nat} (h : n ≤ w.heap.size) : Below n (trunc w n) w := by
  refine ⟨rfl, rfl, rfl, by rw [trunc_size h]; exact h, fun k hk => ?_⟩
  simp [trunc, Array.getElem?_extract]
  omega

theorem Gr.rebase {w wr w1 : World} {v : Value} {k B b : Nat} {RV : Nat → Value} {g : G} (h : Gr w wr v k B RV g) (hc : Chg b (b + 1) wr w1) (hb : b < w.heap.size) :
    Gr (trunc w1 w.heap.size) w1 v k B RV g := by
  obtain ⟨a1, a2, a3, a4, a5, a6, a7⟩ := h
  have hs1 : w.heap.size ≤ w1.heap.size := by have := a1.size; have := hc.size; omega
  have hz := trunc_size hs1
  have hsame : ∀ k, w.heap.size ≤ k → k < wr.heap.size → w1.heap[k]? = wr.heap[k]? := fun k hk1 hk2 => hc.block k hk2 (by omega)
  refine ⟨by rw [hz]; exact trunc_below hs1, by omega, by have := hc.size; omega, by rw [hz]; exact ownsRow_same a4 hsame, a5, fun r hr => ?_, a7⟩
  obtain ⟨ys, c1, c2, c3⟩ := a6 r hr
  exact ⟨ys, by rw [hz]; exact ownsRow_same c1 hsame, c2, c3⟩

theorem Gr.congrV {w wr : World} {v : Value} {k B : Nat} {RV RV' : Nat → Value} {g g' : G} (h : Gr w wr v k B RV g) (e : ∀ r, r < k → RV r = RV' r ∧ g.len r = g'.len r ∧ ∀ c, c < g.len r → g.z r c = g'.z r c) : Gr w wr v k B RV' g' := by
  obtain ⟨a1, a2, a3, a4, a5, a6, a7⟩ := h
  refine ⟨a1, a2, a3, ?_, a5, fun r hr => ?_, fun r s hr hs b e1 e2 => a7 r s hr hs b (by rw [(e r hr).1]; exact e1) (by rw [(e s hs).1]; exact e2)⟩
  · have : (List.range k).map RV' = (List.range k).map RV := List.map_congr_left (fun r hr => ((e r (List.mem_range.1 hr)).1).symm)
    rw [this]; exact a4
  · obtain ⟨ys, c1, c2, c3⟩ := a6 r hr
    obtain ⟨e1, e2, e3⟩ := e r hr
    exact ⟨ys, by rw [← e1, ← e2]; exact c1, by rw [← e1]; exact c2, fun c hc => by rw [← e3 c (by omega)]; exact c3 c (by omega)⟩

/-- eight heights to choose from -/
def Hts (w : World) (hb : Nat) : Prop := ∃ H : Nat → Int, ∀ i, i < 8 → w.cell? ⟨hb, i, none⟩ = some (.int .i64 (H i)) ∧ 0 ≤ H i ∧ H i ≤ 99
theorem Hts.same {w w' : World} {hb : Nat} (h : Hts w hb) (hs : w'.heap[hb]? = w.heap[hb]?) : Hts w' hb := by
  obtain ⟨H, h⟩ := h
  exact ⟨H, fun i hi => ⟨(World.cell?_of_block (a := ⟨hb, i, none⟩) hs).trans (h i hi).1, (h i hi).2⟩⟩

/-- r rows of C columns are drawn -/
structure Dr (wc wr : World) (B q hb : Nat) (v : Value) (r Bk : Nat) (RV : Nat → Value) (g : G) (C : Nat) : Prop where
  gr : ∃ wb : World, wb.heap.size = wc.heap.size ∧ Gr wb wr v r Bk RV g
  chg : Chg B (B + 1) wc wr
  rdr : Rdr wr B q
  hts : Hts wr hb
  ok : ∀ r', r' < r → g.len r' = C ∧ ∀ c, c < C → 0 ≤ g.z r' c ∧ g.z r' c ≤ 99

theorem Dr.size {wc wr : World} {B q hb : Nat} {v : Value} {r Bk : Nat} {RV : Nat → Value} {g : G} {C : Nat} (h : Dr wc wr B q hb v r Bk RV g C) : wc.heap.size ≤ Bk ∧ Bk ≤ wr.heap.size := by
  obtain ⟨wb, e, hg⟩ := h.gr
  exact ⟨by have := hg.lo; omega, hg.hi⟩

theorem Dr.pick {wc wr w1 : World} {B q hb : Nat} {v : Value} {r Bk : Nat} {RV : Nat → Value} {g : G} {C : Nat} (h : Dr wc wr B q hb v r Bk RV g C) (hB : B < hb) (hhb : hb < wc.heap.size) (hr : Rdr w1 B (q + 1)) (hc : Chg B (B + 1) wr w1) :
    Dr wc w1 B (q + 1) hb v r Bk RV g C := by
  obtain ⟨wb, e, hg⟩ := h.gr
  have h1 := h.chg.size
  refine ⟨⟨_, ?_, hg.rebase hc (by omega)⟩, h.chg.trans hc, hr, h.hts.same (hc.block hb (by omega) (by omega)), h.ok⟩
  rw [trunc_size (by have := hc.size; omega), e]

theorem Dr.below {wc wr w1 : World} {B q hb : Nat} {v : Value} {r Bk : Nat} {RV : Nat → Value} {g : G} {C : Nat} (h : Dr wc wr B q hb v r Bk RV g C) (hB : B < hb) (hhb : hb < wc.heap.size) (hb1 : Below Bk wr w1) :
    Dr wc w1 B q hb v r Bk RV g C := by
  obtain ⟨wb, e, hg⟩ := h.gr
  have h0 := h.size
  exact ⟨⟨wb, e, hg.keep hb1⟩, ⟨hb1.os.trans h.chg.os, hb1.tape.trans h.chg.tape, hb1.output.trans h.chg.output, Nat.le_trans h.chg.size hb1.size, fun k h1 h2 => (hb1.block k (by omega)).trans (h.chg.block k h1 h2)⟩,
    h.rdr.keep hb1 (by omega), h.hts.same (hb1.block hb (by omega)), h.ok⟩

theorem Dr.raise {wc wr : World} {B q hb : Nat} {v : Value} {r Bk Bk' : Nat} {RV : Nat → Value} {g : G} {C : Nat} (h : Dr wc wr B q hb v r Bk RV g C) (h1 : Bk ≤ Bk') (h2 : Bk' ≤ wr.heap.size) : Dr wc wr B q hb v r Bk' RV g C := by
  obtain ⟨wb, e, hg⟩ := h.gr
  exact ⟨⟨wb, e, hg.raise h1 h2⟩, h.chg, h.rdr, h.hts, h.ok⟩

/-- a row of m heights is drawn -/
def Rd (B : Nat) (wr : World) (v : Value) (m : Nat) : Prop := ∃ Z, Rw B wr v m Z ∧ ∀ i, i < m → 0 ≤ Z i ∧ Z i ≤ 99

theorem Rd.pick {Bk b : Nat} {wr w1 : World} {v : Value} {m : Nat} (h : Rd Bk wr v m) (hc : Chg b (b + 1) wr w1) (hb : b < Bk) : Rd Bk w1 v m := by
  obtain ⟨Z, ⟨ys, h1, h2⟩, h3⟩ := h
  exact ⟨Z, ⟨ys, ownsRow_same h1 (fun k hk1 hk2 => hc.block k hk2 (by omega)), h2⟩, h3⟩

theorem Rd.push {B : Nat} {w1 : World} {v' : Value} {m : Nat} {Z : Nat → Int} {ys : List Value} {x : Int} (hy : ys.length = m) (hv : ∀ i, i < m → ys[i]? = some (.int .i64 (Z i))) (hz : ∀ i, i < m → 0 ≤ Z i ∧ Z i ≤ 99) (hx : 0 ≤ x ∧ x ≤ 99)
    (hown : w1.ownsRow B 3 1 v' (m + 1) (ys ++ [.int .i64 x])) : Rd B w1 v' (m + 1) := by
  refine ⟨fun i => if i = m then x else Z i, Rw.push hy (fun i hi => ?_) (by simpa using hown), fun i hi => ?_⟩
  · have : i ≠ m := by omega
    simp only [this, if_false]; exact hv i hi
  · by_cases e : i = m
    · simp only [e, if_true]; exact hx
    · simp only [e, if_false]; exact hz i (by omega)

theorem Dr.push {wc wr w1 : World} {B q hb : Nat} {v v' rv : Value} {r Bk : Nat} {RV : Nat → Value} {g : G} {C : Nat} {o : Obj} (h : Dr wc wr B q hb v r Bk RV g C) (hB : B < hb) (hhb : hb < wc.heap.size) (hr : Rd Bk wr rv C)
    (hown : w1.ownsRow wc.heap.size 33 1 v' (r + 1) ((List.range r).map RV ++ [rv])) (hg1 : (wr.alloc o).grownBy w1 v.ownBlock) :
    ∃ RV' g', Dr wc w1 B q hb v' (r + 1) w1.heap.size RV' g' C := by
  obtain ⟨wb, e, hg⟩ := h.gr
  obtain ⟨Z, hrw, hz⟩ := hr
  have h0 := h.size
  have hlow : ∀ b, v.ownBlock = some b → wc.heap.size ≤ b := fun b hb => by have := (hg.top.lt b hb).1; omega
  have hbel : Below wc.heap.size wr w1 := ((Below.refl wc.heap.size wr).alloc (by omega) o).grown hg1 (by simp; omega) hlow
  refine ⟨fun s => if s = r then rv else RV s, ⟨g.n, fun s => if s = r then C else g.len s, fun s => if s = r then Z else g.z s⟩, ⟨⟨wb, e, ?_⟩, ?_, ?_, ?_, ?_⟩⟩
  · have hg2 : Gr wb wr v r Bk RV ⟨g.n, fun s => if s = r then C else g.len s, fun s => if s = r then Z else g.z s⟩ := hg.congrV (fun s hs => by
      have : s ≠ r := by omega
      simp [this])
    exact hg2.push (by simpa using hrw) (by rw [e]; exact hown) hg1
  · exact ⟨hbel.os.trans h.chg.os, hbel.tape.trans h.chg.tape, hbel.output.trans h.chg.output, Nat.le_trans h.chg.size hbel.size, fun k h1 h2 => (hbel.block k h1).trans (h.chg.block k h1 h2)⟩
  · exact h.rdr.keep hbel (by omega)
  · exact h.hts.same (hbel.block hb hhb)
  · intro s hs
    by_cases e2 : s = r
    · simp only [e2, if_true]; exact ⟨trivial, fun c hc => hz c hc⟩
    · simp only [e2, if_false]; exact h.ok s (by omega)

end Go.Proofs.Ytplfphpnpjjinaa
