/- A label twice; no label set: what is reckoned. -/
import Derived.Test.YthelaffjpmcdbaaSwE
import Derived.Test.YthelaffjpmcdbaaDrawLc
import Derived.Test.YthelaffjpmcdbaaLd
import Derived.Deep.RegionHeld3
namespace Go.Proofs.Ythelaffjpmcdbaa
open Go.RowKit
set_option linter.unusedVariables false

theorem st_append_g {P : Program} {w : World} {ops : Array Oper} {o : Oper} {a : Act} {K : Act → World → Prop} {Q : Exit → Act → World → Prop} {E : Prop} (hw : Region.wanted o (yielded ops a.tmps) = true) (s x : Operand) (t : TypeId)
    (ho : o.op = .call { callee := .builtin .append, args := #[s, x], argTypes := #[t, t] })
    (base : Nat) (e : TypeId) (i : TypeInfo) (z : Value) (size bytes : Nat) (ht : P.underlying t = some (.slice e)) (hi : P.info? e = some i) (hz : i.zero = some z)
    (hsize : i.size = size) (hby : i.bytes = bytes) (hzs : z.cells.size = size) (hsz : 0 < size)
    (v : Value) (n : Nat) (xs : List Value) (hs : a.eval s = v) (hown : w.ownsRow base e size v n xs)
    (ad : Addr) (m c : Nat) (news : List Value) (hx : a.eval x = .slice (some ad) m c) (hl : news.length = m * size) (hnews : ∀ j u, news[j]? = some u → w.cell? (ad.add j) = some u) (h1 : ∀ u ∈ news, u.oneCell' = true)
    (h63 : n + m ≤ maxLen) (hbytes : (n + m) * bytes ≤ 140737488355328) (hbase : base ≤ w.heap.size)
    (h : ∀ v' w', w'.ownsRow base e size v' (n + m) (xs ++ news) → w.grownBy w' v.ownBlock → (v' = .slice none 0 0 ↔ v = .slice none 0 0 ∧ m = 0) → K (a.put o.dst v') w') :
    if Region.wanted o (yielded ops a.tmps) = true then Oper.wp P o a w K Q else E := by
  rw [if_pos hw]
  exact wp_append_own w s x t ho base e i z size bytes ht hi hz hsize hby hzs hsz v n xs hs hown ad m c news hx hl hnews h1 h63 hbytes hbase h
theorem twice_no {n i : Nat} {Z : Nat → Int} {a g : Int} (hi : i < n) : ¬ LsOk (n + 1) (fourZ Z n (Z (i * 4)) (Z (i * 4 + 1)) a g) := by
  intro h
  refine (h.2 n (Nat.lt_succ_self n)).2 i hi ?_
  have e0 : ∀ j, j < n * 4 → fourZ Z n (Z (i * 4)) (Z (i * 4 + 1)) a g j = Z j := fun j hj => fourZ_old hj
  have e1 : fourZ Z n (Z (i * 4)) (Z (i * 4 + 1)) a g (n * 4) = Z (i * 4) := by simp [fourZ]
  have e2 : fourZ Z n (Z (i * 4)) (Z (i * 4 + 1)) a g (n * 4 + 1) = Z (i * 4 + 1) := by simp [fourZ]
  exact ⟨by rw [e0 _ (by omega), e1], by rw [e0 _ (by omega), e2]⟩
theorem pre_ok {n k : Nat} {Z : Nat → Int} (h : LsOk n Z) (hk : k ≤ n) : LsOk k Z := ⟨by have := h.1; omega, fun i hi => h.2 i (by omega)⟩
theorem RdT.pre {lo hi : Nat} {w : World} {b off cap n k : Nat} {Z : Nat → Int} (h : RdT lo hi w (.slice (some ⟨b, off, none⟩) n cap) n Z) (hk : k ≤ n) : RdT lo hi w (.slice (some ⟨b, off, none⟩) k cap) k Z := by
  obtain ⟨ao, cap', b', off', h1, h2, h3, h4, h5, h6⟩ := h
  simp only [Value.slice.injEq] at h1
  obtain ⟨rfl, _, rfl⟩ := h1
  exact ⟨_, cap, b', off', rfl, by omega, h3, fun j hj => h4 j (by omega), fun h0 => h5 (by omega), fun j hj => h6 j (by omega)⟩
theorem RdT.cap_le {lo hi : Nat} {w : World} {b off cap n : Nat} {Z : Nat → Int} (h : RdT lo hi w (.slice (some ⟨b, off, none⟩) n cap) n Z) : n ≤ cap := by
  obtain ⟨ao, cap', b', off', h1, h2, _⟩ := h
  simp only [Value.slice.injEq] at h1
  obtain ⟨_, _, rfl⟩ := h1
  exact h2
theorem RdT.openA {lo hi : Nat} {w : World} {b off cap n : Nat} {Z : Nat → Int} (h : RdT lo hi w (.slice (some ⟨b, off, none⟩) n cap) n Z) (h0 : 0 < n) : b < hi ∧ ∀ i, i < n * 4 → w.cell? ⟨b, off + i, none⟩ = some (.int .i64 (Z i)) := by
  obtain ⟨b', off', cap', e, _, _, _, h5, h6⟩ := h.open h0
  simp only [Value.slice.injEq, Option.some.injEq, Addr.mk.injEq, and_true] at e
  obtain ⟨⟨rfl, rfl⟩, _, _⟩ := e
  exact ⟨h5, h6⟩
theorem wt_none {n : Nat} {Z : Nat → Int} (h : LsOk n Z) : StOk n Z n (fun _ => -1) ∧ wtK Z (fun _ => -1) n = 0 :=
  ⟨stOk_iff.2 ⟨h, rfl, apt_none Z n n (fun _ _ => rfl)⟩, by rw [wtK_ow]; exact owK_none Z true (fun _ _ => rfl)⟩
theorem implWt_none (v : Value) (hi n : Nat) (Z : Nat → Int) (v2 : Value) (lo2 hi2 : Nat) (w : World) (hv : RdT 0 hi w v n Z) (hh : hi ≤ w.heap.size) (h : LsOk n Z) (hv2 : RdI lo2 hi2 w v2 n (fun _ => -1)) (hh2 : hi2 ≤ w.heap.size) :
    Calls Try.prog 16 #[v, v2] w (IntPost 0 w) := by
  rw [← (wt_none h).2]
  exact implWt_yes v hi n Z v2 lo2 hi2 _ w hv hh (wt_none h).1 hv2 hh2
/-- the draw with the place of the list left open -/
def LoPost (w : World) (e : Ending) (w' : World) : Prop :=
  ∃ b off cap m Z, e = .returned (.slice (some ⟨b, off, none⟩) m cap) ∧ RdT 0 w'.heap.size w' (.slice (some ⟨b, off, none⟩) m cap) m Z ∧ m ≤ 7 ∧ (∀ j, j < m * 4 → -100 ≤ Z j ∧ Z j ≤ 100) ∧ Below w.heap.size w w'
theorem open_DrawLabelsValid (v : Value) (n hi : Nat) (w : World) (hv : RdB hi w v n) (hh : hi ≤ w.heap.size) :
    Calls Try.prog 13 #[v] w (LoPost w) :=
  (draw_DrawLabelsValid v n hi w hv hh).mono fun e w' ⟨b, cap, m, Z, h1, h2, h3, h4, h5⟩ => ⟨b, 0, cap, m, Z, h1, h2, h3, h4, h5⟩
end Go.Proofs.Ythelaffjpmcdbaa
