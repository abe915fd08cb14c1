/- Linked points: a chain of knots in memory; lists gone through from the end on; a list as a chain. -/
import Derived.Test.YtidlloelinmnnaaM1
import Derived.Test.YtidlloelinmnnaaPrM
import Derived.RangeFuncCalls
import Derived.TacticsInMore
import Derived.RangeFuncLeaves
import Derived.RangeFuncRecord
import Derived.RangeFuncFrom
import Derived.RangeFuncNested
import Derived.RangeFuncWrites
import Derived.LoopIn
import Derived.OwnWalkIn
import Derived.WalkKit
import Derived.Shelf.Abstract
namespace Go.Proofs.Ytidlloelinmnnaa
open Go.RowKit
set_option linter.unusedVariables false
attribute [local go_sem] Oper.semAt_some

theorem abides_drew {β : Type} {B : Nat} {J : β → World → Prop} (h : AbidesFrom B J) {s : β} {W : World} (hs : J s W) (n : Nat) : J s (W.drewN n) :=
  h s W _ none hs ⟨rfl, rfl, rfl, Nat.le_refl _, fun _ _ _ => rfl⟩ (fun r e => by cases e)

/-- two blocks lie as they lay -/
def Kc (A B : Nat) (W W' : World) : Prop := W.heap.size ≤ W'.heap.size ∧ W'.heap[A]? = W.heap[A]? ∧ W'.heap[B]? = W.heap[B]?
theorem Kc.refl (A B : Nat) (W : World) : Kc A B W W := ⟨Nat.le_refl _, rfl, rfl⟩
theorem Kc.trans {A B : Nat} {X Y Z : World} (h : Kc A B X Y) (k : Kc A B Y Z) : Kc A B X Z := ⟨Nat.le_trans h.1 k.1, k.2.1.trans h.2.1, k.2.2.trans h.2.2⟩
theorem Kc.of_below {A B n : Nat} {X Y : World} (h : Below n X Y) (h1 : A < n) (h2 : B < n) : Kc A B X Y := ⟨h.size, h.block _ h1, h.block _ h2⟩
theorem kc_b {A B : Nat} {w : World} (h1 : A < w.heap.size) (h2 : B < w.heap.size) (W : World) (l : Nat) (o o' : Obj) (hl : w.heap.size ≤ l) (h : W.heap[l]? = some o) (_ : o.isCells = false) (_ : o.isWalk = false) : Kc A B W (W.putObj l o') := by
  have hl2 := (Array.getElem?_eq_some_iff.1 h).1
  exact ⟨(grownBy_putObj' W l o').size, (grownBy_putObj' W l o').block A (by omega) (fun e => by cases e; omega), (grownBy_putObj' W l o').block B (by omega) (fun e => by cases e; omega)⟩
theorem Kc.cellB {A B : Nat} {X Y : World} (h : Kc A B X Y) (o : Nat) : Y.cell? ⟨B, o, none⟩ = X.cell? ⟨B, o, none⟩ := World.cell?_of_block (a := ⟨B, o, none⟩) h.2.2
theorem Kc.cellA {A B : Nat} {X Y : World} (h : Kc A B X Y) (o : Nat) : Y.cell? ⟨A, o, none⟩ = X.cell? ⟨A, o, none⟩ := World.cell?_of_block (a := ⟨A, o, none⟩) h.2.1

/-- the indexes below m from the last on, t of them -/
def dnK (m : Nat) : Nat → List Nat
  | 0 => []
  | t + 1 => dnK m t ++ [m - 1 - t]
theorem dnK_len (m : Nat) : ∀ t, (dnK m t).length = t := by
  intro t
  induction t with
  | zero => rfl
  | succ t ih => simp [dnK, ih]
theorem dnK_pre (m t : Nat) : ∀ s, t ≤ s → dnK m t <+: dnK m s := by
  intro s
  induction s with
  | zero => intro h; obtain rfl : t = 0 := by omega
            exact List.prefix_refl _
  | succ s ih =>
    intro h
    by_cases e : t = s + 1
    · subst e; exact List.prefix_refl _
    · exact (ih (by omega)).trans (List.prefix_append _ _)

set_option maxRecDepth 100000 in
set_option maxHeartbeats 4000000 in
theorem bk_in (n : Nat) (hn : 1 ≤ n) (l Bm b off m cap : Nat) (Y : Nat → Int) (J Jx : List Nat → World → Prop)
    (W : World) (hJ : AbidesFrom W.heap.size J)
    (hY : ∀ pre x W1, J pre W1 → pre.length < m → YieldAt Fence.wide (n - 1) Try.prog l #[.int .i64 (x : Nat), .int .i64 (Y x)] W1 fun e W' =>
      (e = .returned (.bool true) ∧ J (pre ++ [x]) W' ∧ Kc Bm b W1 W') ∨ (e = .returned (.bool false) ∧ Jx (pre ++ [x]) W'))
    (hm : m ≤ 1000) (hmc : m ≤ cap) (hbox : W.cell? ⟨Bm, 0, none⟩ = some (.slice (some ⟨b, off, none⟩) m cap)) (hc : ∀ i, i < m → W.cell? ⟨b, off + i, none⟩ = some (.int .i64 (Y i))) (h0 : J [] W) :
    CallsIn Fence.wide n Try.prog 129 #[.func (.yield l) #[] #[], .pointer (some ⟨Bm, 0, none⟩)] W fun e W' => (∃ v, e = .returned v) ∧
      ((∃ ys, ys = dnK m m ∧ J ys W') ∨ (∃ pre, pre <+: dnK m m ∧ Jx pre W')) := by
  have HBX := Lib.hid hbox
  have HC := Lib.hid hc
  have HJ := Lib.hid @hJ
  have HJ0 := Lib.hid h0
  have HY := Lib.hid hY
  clear hY h0 hJ hc
  refine callsIn_of_wp Try.func129 rfl trivial ?_ rfl
  simp only [Try.ntmps129, List.size_toArray, List.length_cons, List.length_nil, Nat.reduceAdd, Nat.reduceSub, Array.replicate_succ, Array.replicate_zero, List.push_toArray, List.append_toArray, List.nil_append, List.cons_append]
  gi_wp2
  clear hbox
  gi_loopw [3] (fun s wr => ∃ i : Nat, i ≤ m ∧ s = .int .i64 ((i : Int) - 1) ∧ J (dnK m (m - i)) wr ∧ Kc Bm b W wr) (fun s _ => (intOf s + 1).toNat)
  case atStart => exact ⟨m, by omega, by go_num, by rw [Nat.sub_self]; exact HJ0.out, Kc.refl _ _ _⟩
  case round =>
    obtain ⟨i', hi', rfl, hJ, hb⟩ := hrel
    cases i' with
    | zero =>
      have HJ1 := Lib.hid hJ
      clear hJ hb
      gi_wp2
      go_end0
      exact ⟨⟨_, rfl⟩, .inl ⟨_, rfl, HJ1.out⟩⟩
    | succ i =>
      rw [show (((i + 1 : Nat) : Int) - 1) = (i : Int) by omega]
      have hi0 : i < m := by omega
      have hi0' : (i : Int) < m := by omega
      have c0 := (hb.cellA 0).trans HBX.out
      have c1 := (hb.cellB (off + i)).trans (HC.out i hi0)
      have HK := Lib.hid hb
      have HS := Lib.hid (show dnK m (m - i) = dnK m (m - (i + 1)) ++ [i] by rw [show m - i = (m - (i + 1)) + 1 by omega]; show _ ++ [m - 1 - (m - (i + 1))] = _; rw [show m - 1 - (m - (i + 1)) = i by omega])
      obtain ⟨fn, tmps, assign, body, hy, hR⟩ := HY.out (dnK m (m - (i + 1))) i wr hJ (by rw [dnK_len]; omega)
      obtain ⟨y, ey⟩ : ∃ y, Y i = y := ⟨_, rfl⟩
      rw [ey] at c1 hy
      clear hJ hb ey
      gi_wp2
      refine hR.mono ?_
      rintro e W' (⟨rfl, hJ', hk'⟩ | ⟨rfl, hJx'⟩)
      · have HJ' := Lib.hid hJ'
        have HK' := Lib.hid (HK.out.trans hk')
        clear hJ' hk' hy hR
        gi_wp2
        go_roundw
        case rel => exact ⟨i, by omega, by go_num, by rw [HS.out]; exact HJ'.out, HK'.out⟩
        case measure => simp [intOf]
      · have HJX := Lib.hid hJx'
        clear hJx' hy hR
        gi_wp2
        refine bodyPost_ret (results_none rfl _ _ _) rfl ?_
        exact ⟨⟨_, rfl⟩, .inr ⟨_, dnK_pre m (m - i) m (by omega), by rw [HS.out]; exact HJX.out⟩⟩

theorem bk_stops (n : Nat) (hn : 1 ≤ n) (Bm b off m cap : Nat) (Y : Nat → Int) (w : World) (hBm : Bm < w.heap.size) (hbl : b < w.heap.size) (hm : m ≤ 1000) (hmc : m ≤ cap)
    (hbox : w.cell? ⟨Bm, 0, none⟩ = some (.slice (some ⟨b, off, none⟩) m cap)) (hc : ∀ i, i < m → w.cell? ⟨b, off + i, none⟩ = some (.int .i64 (Y i))) :
    SeqStopsK Fence.wide n Try.prog 129 #[.pointer (some ⟨Bm, 0, none⟩)] (fun x : Nat => #[Value.int .i64 x, .int .i64 (Y x)]) (Kc Bm b) (fun ys => ys = dnK m m) (fun pre => pre <+: dnK m m) m w := fun l J Jx W hW hJ _ hY h0 =>
  bk_in n hn l Bm b off m cap Y J Jx W hJ hY hm hmc ((hW.cell (p := ⟨Bm, 0, none⟩) hBm).trans hbox) (fun i hi => (hW.cell (p := ⟨b, off + i, none⟩) hbl).trans (hc i hi)) h0

def BkPost (v : Value) (w : World) (e : Ending) (w' : World) : Prop :=
  e = .returned (.func (.func 129) #[] #[.pointer (some ⟨w.heap.size, 0, none⟩)]) ∧ w' = w.alloc (.cells #[v] 26)
set_option maxHeartbeats 1000000 in
set_option maxRecDepth 20000 in
theorem bk_any (a : Option Addr) (n c : Nat) (w : World) :
    Calls Try.prog 108 #[.slice a n c] w (BkPost (.slice a n c) w) := by
  go_enter Try.func108, Try.ntmps108
  go_wp2
  go_ret
  exact ⟨rfl, rfl⟩

theorem bk_two (w : World) (o1 o2 : Obj) : let W := (w.alloc o1).alloc o2
    W.heap[w.heap.size]? = some o1 ∧ W.heap[w.heap.size + 1]? = some o2 ∧ W.heap.size = w.heap.size + 2 ∧ Below w.heap.size w W := by
  intro W
  have e1 : (w.alloc o1).heap.size = w.heap.size + 1 := by simp
  have b2 := fun k hk => Below.heap_alloc (w.alloc o1) o2 k hk
  refine ⟨(b2 _ (by omega)).trans (heap_alloc_new w o1), ?_, by simp [W], ((Below.refl _ _).alloc (Nat.le_refl _) _).alloc (by simp) _⟩
  have := heap_alloc_new (w.alloc o1) o2
  rw [e1] at this
  exact this

/-- the points that a list of indexes names, the last first -/
def ptL (Y : Nat → Int) (pre : List Nat) : List Int := (pre.map Y).reverse
theorem ptL_snoc (Y : Nat → Int) (pre : List Nat) (x : Nat) : ptL Y (pre ++ [x]) = Y x :: ptL Y pre := by simp [ptL]
theorem ptL_all (Y : Nat → Int) (m : Nat) : ∀ t, t ≤ m → ptL Y (dnK m t) = fnL (fun i => Y (m - t + i)) t := by
  intro t
  induction t with
  | zero => intro _; rfl
  | succ t ih =>
    intro h
    have h1 : dnK m (t + 1) = dnK m t ++ [m - 1 - t] := rfl
    rw [h1, ptL_snoc, ih (by omega)]
    apply List.ext_getElem?
    intro i
    cases i with
    | zero => rw [fnL_at _ (t + 1) 0 (by omega)]; simp; congr 1; omega
    | succ i =>
      rw [List.getElem?_cons_succ]
      by_cases hi : i < t
      · rw [fnL_at _ t i hi, fnL_at _ (t + 1) (i + 1) (by omega), show m - t + i = m - (t + 1) + (i + 1) by omega]
      · rw [List.getElem?_eq_none (by rw [fnL_len]; omega), List.getElem?_eq_none (by rw [fnL_len]; omega)]
theorem ptL_full (Y : Nat → Int) (m : Nat) : ptL Y (dnK m m) = fnL Y m := by
  rw [ptL_all Y m m (Nat.le_refl _)]
  congr 1
  funext i
  rw [Nat.sub_self, Nat.zero_add]

theorem keep_blk {β : Type} {B b : Nat} {o : Obj} (hb : b < B) : OwnFrom B (fun (_ : β) W => W.heap[b]? = some o) := fun s X Y row hs hg hrow =>
  (hg.block b (Array.getElem?_eq_some_iff.1 hs).1 (fun e => by have := (hrow b e.symm).1; omega)).trans hs

end Go.Proofs.Ytidlloelinmnnaa
