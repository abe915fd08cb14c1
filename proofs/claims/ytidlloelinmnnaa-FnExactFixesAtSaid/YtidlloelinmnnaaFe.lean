/- The iterator over a chain of corrections; lists as chains and back. -/
import Derived.Test.YtidlloelinmnnaaFc
namespace Go.Proofs.Ytidlloelinmnnaa
open Go.RowKit
set_option linter.unusedVariables false
attribute [local go_sem] Oper.semAt_some

theorem ta_yes (v : Value) (w : World) : (Instr.typeAssert (.iface 96 v) 70 96 true).run Try.prog w = .ok (.tuple #[v, .bool true]) w := by kernel_rfl
theorem ta_no (v : Value) (w : World) : (Instr.typeAssert (.iface 93 v) 70 96 true).run Try.prog w = .ok (.tuple #[.agg #[.int .i64 0, .int .i64 0, .int .i64 0, .int .i64 0, .nilIface], .bool false]) w := by kernel_rfl

theorem one_cellF {w : World} {B : Nat} {x : Value} {t : TypeId} (h : w.heap[B]? = some (.cells #[x] t (0, 0))) : w.cell? ⟨B, 0, none⟩ = some x := by simp [World.cell?, h]
theorem ckV_iface : ∀ l : List Fx, ∃ t u, ckV l = .iface t u
  | [] => ⟨_, _, rfl⟩
  | _ :: _ => ⟨_, _, rfl⟩
/-- a box with a chain -/
def Ck (w : World) (B : Nat) (L : List Fx) : Prop := w.heap[B]? = some (.cells #[ckV L] 70 (0, 0))
theorem Ck.set {w : World} {B : Nat} {L : List Fx} (h : Ck w B L) (M : List Fx) : Ck (w.setCell ⟨B, 0, none⟩ (ckV M)) B M := by
  have := heap_setCell_same w B 0 _ _ (ckV M) h
  simpa [Ck] using this
def Kx (B : Nat) (W W' : World) : Prop := W.heap.size ≤ W'.heap.size ∧ W'.heap[B]? = W.heap[B]? ∧ ∀ (k : Nat) (u : Array Value), W.heap[k]? = some (Obj.cells u 96 (0, 0)) → W'.heap[k]? = some (Obj.cells u 96 (0, 0))
def Tx (B : Nat) (X Y : World) : Prop := ∃ v, Y = X.setCell ⟨B, 0, none⟩ v
theorem Kx.trans {B : Nat} {X Y Z : World} (h : Kx B X Y) (k : Kx B Y Z) : Kx B X Z := ⟨Nat.le_trans h.1 k.1, k.2.1.trans h.2.1, fun j u hj => k.2.2 j u (h.2.2 j u hj)⟩
theorem Kx.put {B : Nat} (W : World) (l : Nat) (o o' : Obj) (h : B ≠ l) (hl : W.heap[l]? = some o) (ho : o.isCells = false) : Kx B W (W.putObj l o') := ⟨by rw [World.putObj_size]; exact Nat.le_refl _, World.putObj_heap_other h, fun k u hk => (World.putObj_heap_other (fun e => by subst e; rw [hl] at hk; cases hk; cases ho)).trans hk⟩
theorem Kx.grown {B : Nat} {X Y : World} (h : X.grownBy Y none) (hB : B < X.heap.size) : Kx B X Y := ⟨h.size, h.block _ hB (by simp), fun k u hk => (h.block k (lt_of_block hk) (by simp)).trans hk⟩
theorem Kx.of {B : Nat} {X Y : World} (r : Option Nat) (h : X.grownBy Y r) (hB : B < X.heap.size) (hr : some B ≠ r) (ht : ∀ (k : Nat) (o : Obj), r = some k → X.heap[k]? = some o → ∀ u, o ≠ Obj.cells u 96 (0, 0)) : Kx B X Y := ⟨h.size, h.block _ hB hr, fun k u hk => (h.block k (lt_of_block hk) (fun e => ht k _ e.symm hk u rfl)).trans hk⟩
theorem Tx.others {B : Nat} {X Y : World} (h : Tx B X Y) : ∀ (k : Nat) (o : Obj), X.heap[k]? = some o → o.isCells = false → Y.heap[k]? = some o := fun k o hk ho => by
  obtain ⟨v, rfl⟩ := h
  exact (KeepsOthers.setCell X ⟨B, 0, none⟩ v).same k o hk ho

set_option maxRecDepth 100000 in
set_option maxHeartbeats 4000000 in
theorem fx_seq (n : Nat) (hn : 1 ≤ n) (Bm : Nat) (L : List Fx) (w : World) (hBm : Ck w Bm L) :
    SeqB Fence.wide n Try.prog 100 #[.pointer (some ⟨Bm, 0, none⟩)] (fun x : Fx => #[fxV x]) (Kx Bm) (Tx Bm) (fun ys => ys = L) (fun l => l <+: L) w := by
  intro l J W hW hJo hJT hY h0
  have HJ0 := Lib.hid h0
  have HY := Lib.hid hY
  have HJO := Lib.hid hJo
  have HJT := Lib.hid hJT
  have HB := Lib.hid (show Ck W Bm L from (hW.block _ (lt_of_block hBm)).trans hBm)
  clear hY h0 hJo hJT hBm hW
  refine callsIn_of_wp Try.func100 rfl trivial ?_ rfl
  simp only [Try.ntmps100, List.size_toArray, List.length_cons, List.length_nil, Nat.reduceAdd, Nat.reduceSub, Array.replicate_succ, Array.replicate_zero, List.push_toArray, List.append_toArray, List.nil_append, List.cons_append]
  gi_wp2
  gi_loopw [] (fun wr => ∃ pre rest, pre ++ rest = L ∧ J pre wr ∧ Ck wr Bm rest ∧ W.heap.size ≤ wr.heap.size) (fun wr => ckN (wr.cell? ⟨Bm, 0, none⟩))
  case atStart => exact ⟨[], L, rfl, HJ0.out, HB.out, Nat.le_refl _⟩
  case round =>
    obtain ⟨pre, rest, hpr, hJ, hck, hsz⟩ := hrel
    have HCK := Lib.hid hck
    have hbl := lt_of_block hck
    cases rest with
    | nil =>
      have c0 : wr.cell? ⟨Bm, 0, none⟩ = some (.iface 93 (.agg #[])) := one_cellF hck
      have HT := ta_no (.agg #[])
      have HJ1 := Lib.hid hJ
      clear hJ hck
      gi_wp2
      refine bodyPost_ret (results_none rfl _ _ _) rfl ?_
      exact ⟨⟨_, rfl⟩, _, rfl, by rw [← hpr, List.append_nil]; exact HJ1.out⟩
    | cons f rest =>
      have HJ1 := Lib.hid hJ
      have HL := Lib.hid hpr
      obtain ⟨vt, vu, eV⟩ := ckV_iface rest
      have c0 : wr.cell? ⟨Bm, 0, none⟩ = some (.iface 96 (.agg #[.int .i64 f.r, .int .i64 f.c, .int .i64 f.o, .int .i64 f.n, .iface vt vu])) := by rw [← eV]; exact one_cellF hck
      have HT := ta_yes (.agg #[.int .i64 f.r, .int .i64 f.c, .int .i64 f.o, .int .i64 f.n, .iface vt vu])
      have hlen : pre ++ [f] <+: L := ⟨rest, by rw [← hpr]; simp⟩
      obtain ⟨fn, tmps, assign, body, hy, hR⟩ := HY.out pre f (wr.alloc (.cells #[.int .i64 f.r, .int .i64 f.c, .int .i64 f.o, .int .i64 f.n, .iface vt vu] 96)) (HJO.out.alloc _ hJ) hlen
      simp only [fxV] at hy
      have HNEW := Lib.hid (heap_alloc_new wr (.cells #[.int .i64 f.r, .int .i64 f.c, .int .i64 f.o, .int .i64 f.n, .iface vt vu] 96))
      have HOLD := Lib.hid (Below.heap_alloc wr (.cells #[.int .i64 f.r, .int .i64 f.c, .int .i64 f.o, .int .i64 f.n, .iface vt vu] 96) Bm hbl)
      clear hJ hck hpr hlen
      gi_wp2
      refine hR.mono ?_
      rintro e W' ⟨rfl, hJ', hk1, hk2, hk3⟩
      have HJ' := Lib.hid hJ'
      have hck2 : Ck W' Bm (f :: rest) := hk2.trans (HOLD.out.trans HCK.out)
      have HCK2 := Lib.hid hck2
      have d0 : W'.frozen? ⟨Bm, 0, none⟩ = false := by simp [World.frozen?, show W'.heap[Bm]? = _ from hck2]
      have HB4 := Lib.hid (hk3 _ _ HNEW.out)
      have d1 : W'.cell? ⟨wr.heap.size, 4, none⟩ = some (.iface vt vu) := by simp [World.cell?, HB4.out]
      have d2 : ∃ u, W'.cell? ⟨Bm, 0, none⟩ = some u := ⟨_, one_cellF hck2⟩
      obtain ⟨u2, d2⟩ := d2
      have HSZ := Lib.hid (show W.heap.size ≤ W'.heap.size by have := hk1; rw [World.size_alloc] at this; omega)
      clear hJ' hk1 hk2 hk3 hy hR c0 HT hck2
      gi_wp2
      go_roundw
      case rel => exact ⟨pre ++ [f], rest, by rw [← HL.out]; simp, HJT.out _ _ _ HJ'.out ⟨_, rfl⟩, by rw [← eV]; exact HCK2.out.set rest, by simpa [World.setCell] using HSZ.out⟩
      case measure =>
        have e1 := one_cellF (HCK2.out.set rest)
        have e2 := one_cellF HCK.out
        rw [eV] at e1
        rw [e1, e2, ← eV, ckN_at, ckN_at]
        simp

theorem eachFix_any (L : List Fx) (w : World) :
    Calls Try.prog 71 #[ckV L] w (fun e w' => e = .returned (.func (.func 100) #[] #[.pointer (some ⟨w.heap.size, 0, none⟩)]) ∧ w' = w.alloc (.cells #[ckV L] 70)) := by
  obtain ⟨vt, vu, eV⟩ := ckV_iface L
  rw [eV]
  go_enter Try.func71, Try.ntmps71
  go_wp2
  go_ret
  exact ⟨rfl, rfl⟩

/-- the numbers of corrections, one after the other -/
def fxN : List Fx → List Int
  | [] => []
  | f :: l => f.r :: f.c :: f.o :: f.n :: fxN l
theorem fxN_len : ∀ l : List Fx, (fxN l).length = l.length * 4
  | [] => rfl
  | f :: l => by simp only [fxN, List.length_cons, fxN_len l]; omega
theorem fxN_app : ∀ (l m : List Fx), fxN (l ++ m) = fxN l ++ fxN m
  | [], _ => rfl
  | f :: l, m => by simp [fxN, fxN_app l m]
def fzZ (L : List Fx) (j : Nat) : Int := ((fxN L)[j]?).getD 0
theorem fxAt_fzZ : ∀ (L : List Fx) (i : Nat) (f : Fx), L[i]? = some f → fxAt (fzZ L) i = f
  | [], i, f, h => by simp at h
  | g :: l, 0, f, h => by simp only [List.getElem?_cons_zero, Option.some.injEq] at h; subst h; rfl
  | g :: l, i + 1, f, h => by
    have ih := fxAt_fzZ l i f (by simpa using h)
    rw [← ih]
    have e : ∀ j, fzZ (g :: l) (j + 4) = fzZ l j := fun j => by simp [fzZ, fxN]
    unfold fxAt
    rw [show (i + 1) * 4 = i * 4 + 4 by omega, show i * 4 + 4 + 1 = i * 4 + 1 + 4 by omega, show i * 4 + 4 + 2 = i * 4 + 2 + 4 by omega, show i * 4 + 4 + 3 = i * 4 + 3 + 4 by omega, e, e, e, e]
theorem fzZ_F (L : List Fx) : fxF (fzZ L) 0 L.length = L := by
  apply List.ext_getElem?
  intro i
  by_cases h : i < L.length
  · rw [fxF_at _ _ _ _ h, Nat.zero_add, fxAt_fzZ L i L[i] (by simp [h])]
    simp [h]
  · rw [List.getElem?_eq_none (by rw [fxF_len]; omega), List.getElem?_eq_none (by omega)]
theorem fnL_fzZ (L : List Fx) : fnL (fzZ L) (L.length * 4) = fxN L := by
  apply List.ext_getElem?
  intro i
  by_cases h : i < L.length * 4
  · rw [fnL_at _ _ _ h]
    have : i < (fxN L).length := by rw [fxN_len]; exact h
    simp [fzZ, this]
  · rw [List.getElem?_eq_none (by rw [fnL_len]; omega), List.getElem?_eq_none (by rw [fxN_len]; omega)]
/-- a list of the call's own that holds corrections -/
def Lf (B : Nat) (w : World) (v : Value) (L : List Fx) : Prop := w.ownsRow B 63 4 v L.length (nsV (fxN L))
theorem Lf.labs {B : Nat} {w : World} {v : Value} {L : List Fx} (h : Lf B w v L) : Labs B w v L.length (fzZ L) := by
  unfold Labs
  rw [fnL_fzZ]
  exact h
theorem fxN_range {L : List Fx} (h : ∀ f ∈ L, (-9223372036854775808 ≤ f.r ∧ f.r ≤ 9223372036854775807) ∧ (-9223372036854775808 ≤ f.c ∧ f.c ≤ 9223372036854775807) ∧ (-9223372036854775808 ≤ f.o ∧ f.o ≤ 9223372036854775807) ∧ (-9223372036854775808 ≤ f.n ∧ f.n ≤ 9223372036854775807)) :
    ∀ j, j < L.length * 4 → -9223372036854775808 ≤ fzZ L j ∧ fzZ L j ≤ 9223372036854775807 := fun j hj => by
  have hd : j / 4 < L.length := by omega
  have e := fxAt_fzZ L (j / 4) L[j / 4] (by simp [hd])
  obtain ⟨h0, h1, h2, h3⟩ := h _ (List.getElem_mem hd)
  rw [← e] at h0 h1 h2 h3
  simp only [fxAt] at h0 h1 h2 h3
  rcases (by omega : j = j / 4 * 4 ∨ j = j / 4 * 4 + 1 ∨ j = j / 4 * 4 + 2 ∨ j = j / 4 * 4 + 3) with k | k | k | k
  all_goals (rw [k]; omega)

theorem kx_appended {W w1 : World} {n0 B Bm k : Nat} {t : TypeId} {v v' : Value} {xs : List Value} {tmp : Obj} (hv : Boxed W B t v) (ht : t ≠ 96) (hrow : W.ownsRow n0 63 4 v k xs) (hgrow : (W.alloc tmp).grownBy w1 v.ownBlock) (hBm : Bm < W.heap.size) (h1 : Bm ≠ B) (h2 : Bm < n0) : Kx Bm W (w1.setCell ⟨B, 0, none⟩ v') := by
  have hz := hgrow.size
  rw [World.size_alloc] at hz
  have hown : ∀ j, some j = v.ownBlock → n0 ≤ j ∧ ∃ c, W.heap[j]? = some (.cells c 63 (0, 0)) := fun j hj => by
    rcases hrow.2 with ⟨rfl, _⟩ | ⟨g, cap, cur, rfl, hb, hh, _⟩
    · simp [Value.ownBlock] at hj
    · obtain rfl : j = g := by simpa [Value.ownBlock] using hj
      exact ⟨hb, _, hh⟩
  have hkeep : ∀ j, j < W.heap.size → some j ≠ v.ownBlock → j ≠ B → (w1.setCell ⟨B, 0, none⟩ v').heap[j]? = W.heap[j]? := fun j hj hne hB =>
    (Below.heap_setCell w1 ⟨B, 0, none⟩ v' j (by simpa using hB)).trans ((hgrow.block j (by rw [World.size_alloc]; omega) hne).trans (Below.heap_alloc W tmp j hj))
  refine ⟨by simp [World.setCell]; omega, hkeep Bm hBm (fun e => by have := (hown _ e).1; omega) h1, fun j u hj => (hkeep j (lt_of_block hj) (fun e => ?_) (fun e => ?_)).trans hj⟩
  · obtain ⟨_, c, hc⟩ := hown _ e
    rw [hj] at hc
    simp only [Option.some.injEq, Obj.cells.injEq] at hc
    exact absurd hc.2.1 (by decide)
  · subst e
    have hh : W.heap[j]? = some (.cells #[v] t (0, 0)) := hv
    rw [hj] at hh
    simp only [Option.some.injEq, Obj.cells.injEq] at hh
    exact ht hh.2.1.symm

def CfPost (L : List Fx) (w : World) (e : Ending) (w' : World) : Prop := ∃ v, e = .returned v ∧ (∃ a l c, v = .slice a l c) ∧ Lf w.heap.size w' v L ∧ Below w.heap.size w w'
set_option maxRecDepth 100000 in
set_option maxHeartbeats 8000000 in
theorem appendSeqF_any (L : List Fx) (Bm : Nat) (w : World) (hL : L.length ≤ 1000) (hBm : Ck w Bm L) :
    Calls Try.prog 115 #[.slice none 0 0, .func (.func 100) #[] #[.pointer (some ⟨Bm, 0, none⟩)]] w (fun e w' => ∃ v, e = .returned v ∧ (∃ a l c, v = .slice a l c) ∧ Lf w.heap.size w' v L ∧ Below Bm w w') := by
  obtain ⟨i0, hi, hz0, hz1, hz2⟩ := info_parts Try.infoLb
  have hlt := lt_of_block hBm
  refine (callsIn_wide (n := 5)).1 ?_
  refine callsIn_of_wp_marks Try.func115 rfl trivial ?_ rfl
  simp only [Try.ntmps115, List.size_toArray, List.length_cons, List.length_nil, Nat.reduceAdd, Nat.reduceSub, Array.replicate_succ, Array.replicate_zero, List.push_toArray, List.append_toArray, List.nil_append, List.cons_append]
  gi_wp2
  have bO := Boxed.new w 30 (.slice none 0 0)
  have hB0 : Below w.heap.size w (w.alloc (.cells #[.slice none 0 0] 30)) := (Below.refl _ w).alloc (Nat.le_refl _) _
  have hck : Ck (w.alloc (.cells #[.slice none 0 0] 30)) Bm L := (hB0.block _ hlt).trans hBm
  refine wpIn_seqB (fx_seq 4 (by omega) Bm L _ hck) rfl (by omega) rfl trivial (enters_of Try.func100 (by kernel_rfl) rfl) Kx.trans (fun W l o o' hl ho hc => Kx.put W l o o' (by simp at hl; omega) ho hc) (fun X Y hX h => Kx.grown h (by simp at hX; omega))
    (fun X Y h => h.others) (Below.refl _ _) (fun _ => rfl)
    (fun pre W => (∃ v, Boxed W w.heap.size 30 v ∧ W.ownsRow w.heap.size 63 4 v pre.length (nsV (fxN pre)) ∧ (v = .slice none 0 0 ↔ pre = [])) ∧ Below Bm w W)
    (OwnFrom.and (Own.from (holdsRow_own w.heap.size w.heap.size 30 63 4 (fun pre : List Fx => pre.length) (fun pre => nsV (fxN pre)) (fun pre v => v = .slice none 0 0 ↔ pre = [])) _) (ownFrom_below (by omega) (by simp; omega)))
    (fun s X Y hs hT => by
      obtain ⟨⟨v, hv, hrow, hnil⟩, hB⟩ := hs
      obtain ⟨u, rfl⟩ := hT
      exact ⟨⟨v, hv.other (by omega) u, ownsRow_setCell_other hrow (fun e => by have h : w.heap.size ≤ Bm := (hrow.lt _ e).1; omega) u, hnil⟩, hB.setCell (p := ⟨Bm, 0, none⟩) (Nat.le_refl _) u⟩)
    ⟨⟨_, bO, World.ownsRow_nil _ _ _ _, by simp⟩, hB0.mono (by omega)⟩
    (fun x W0 => { tmps := #[.slice none 0 0, .func (.func 100) #[] #[.pointer (some ⟨Bm, 0, none⟩)], .pointer (some ⟨w.heap.size, 0, none⟩), undef, .slice none 0 0, .pointer (some ⟨W0.heap.size, 0, none⟩), .func (.func 100) #[] #[.pointer (some ⟨Bm, 0, none⟩)], fxV x, undef, undef, undef, undef, undef], defers := [] })
    (fun x W0 W1 => W1.heap[W0.heap.size]? = some (.cells #[.int .i64 x.r, .int .i64 x.c, .int .i64 x.o, .int .i64 x.n] 63 (0, 0)))
    (fun x W0 W1 l o o' ho hc h => (World.putObj_heap_other (fun e => by subst e; rw [h] at ho; cases ho; cases hc)).trans h) ?assign ?body ?done
  case assign =>
    intro l x W K hK
    simp only [fxV]
    gi_wp2
    exact hK _ (World.grownBy_alloc W _ none) (heap_alloc_new W _)
  case body =>
    rintro l pre x W0 W ⟨⟨v, hv, hrow, hnil⟩, hB⟩ hA hs0 hs1 hpl
    have hc := hv.cell
    have hsB := hB.size
    have hpl2 : pre.length ≤ 1000 := by have := hpl.length_le; simp at this; omega
    clear hpl
    obtain ⟨q0, q1, q2, q3⟩ := cellsLb hA
    obtain ⟨r0, er0⟩ : ∃ y, x.r = y := ⟨_, rfl⟩
    obtain ⟨c0, ec0⟩ : ∃ y, x.c = y := ⟨_, rfl⟩
    obtain ⟨o0, eo0⟩ : ∃ y, x.o = y := ⟨_, rfl⟩
    obtain ⟨n0, en0⟩ : ∃ y, x.n = y := ⟨_, rfl⟩
    have HN := Lib.hid (show nsV (fxN (pre ++ [x])) = nsV (fxN pre) ++ [.int .i64 r0, .int .i64 c0, .int .i64 o0, .int .i64 n0] by rw [fxN_app]; simp [nsV, fxN, er0, ec0, eo0, en0])
    simp only [fxV, er0, ec0, eo0, en0] at q0 q1 q2 q3 ⊢
    have HV := Lib.hid hv
    have HB := Lib.hid hB
    have HR := Lib.hid hrow
    clear hA er0 ec0 eo0 en0 hv hB
    gi_wp2_with (gi_at_builtin; refine wpListIn_append_own _ rfl _ _ 30 rfl w.heap.size 63 i0 _ 4 32 Try.underlying30 hi hz0 hz1 hz2 rfl (by decide) _ pre.length (nsV (fxN pre)) rfl (hrow.alloc _) ⟨W.heap.size, 0, none⟩ 1 1 [.int .i64 r0, .int .i64 c0, .int .i64 o0, .int .i64 n0] rfl rfl (World.news_of_block (cs := #[.int .i64 r0, .int .i64 c0, .int .i64 o0, .int .i64 n0]) (t := 63) (fr := (0, 0)) (heap_alloc_new _ _)) (by simp [Value.oneCell']) (by unfold maxLen; omega) (by omega) (by simp; omega) ?_; intro v' w1 hown' hgrow _; obtain ⟨g', cap', rfl⟩ := ownsRow_succ hown'; have HKA := Lib.hid (fun u => kx_appended (Bm := Bm) (v' := u) HV.out (by decide) HR.out hgrow (by omega) (by omega) hlt); obtain ⟨hv1, hv2, hr2, hk2, hb2⟩ := HV.out.appended (by decide) HR.out (by omega) (Nat.le_refl _) hown' hgrow; have HV2 := Lib.hid hv2; have HR2 := Lib.hid hr2; have HK2 := Lib.hid hk2; have HB2 := Lib.hid hb2; have hc1 := hv1.cell; have hf1 := hv1.frozen; clear hown' hgrow hv2 hr2 hk2 hb2 hv1)
    exact ⟨HK2.out, HKA.out _, ⟨_, HV2.out, by rw [HN.out]; simpa using HR2.out, by simp⟩, HB.out.trans (HB2.out.mono (by omega))⟩
  case done =>
    rintro D ys W hD rfl ⟨⟨v, hv, hrow, hnil⟩, hB⟩ hK
    have hc := hv.cell
    have HR := Lib.hid hrow
    have HB := Lib.hid hB
    have HK := Lib.hid hK
    have hshape : ∃ a l c, v = .slice a l c := by
      rcases hrow.2 with ⟨rfl, _⟩ | ⟨g, cap, cur, rfl, _⟩
      · exact ⟨_, _, _, rfl⟩
      · exact ⟨_, _, _, rfl⟩
    clear hv hrow hB hK
    gi_wp2
    refine ⟨by simp, .inl ⟨_, _, rfl, run_takeDeferred HK.out, ?_⟩⟩
    exact ⟨_, results_tmp rfl _ _ _, v, rfl, hshape, ownsRow_putObj HR.out _ HK.out rfl, HB.out.trans (belowK_b (w := w) (by omega) W D _ _ (by simp at hD; omega) HK.out rfl rfl)⟩

set_option maxHeartbeats 1000000 in
set_option maxRecDepth 20000 in
theorem collectF_any (L : List Fx) (Bm : Nat) (w : World) (hL : L.length ≤ 1000) (hBm : Ck w Bm L) :
    Calls Try.prog 101 #[.func (.func 100) #[] #[.pointer (some ⟨Bm, 0, none⟩)]] w (fun e w' => ∃ v, e = .returned v ∧ (∃ a l c, v = .slice a l c) ∧ Lf w.heap.size w' v L ∧ Below Bm w w') := by
  have HA := Lib.hid (appendSeqF_any L Bm w hL hBm)
  clear hBm
  go_enter Try.func101, Try.ntmps101
  go_wp2_with fail
  refine HA.out.mono ?_
  rintro e w2 ⟨v, rfl, ⟨a, l, c, rfl⟩, hl, hb⟩
  have HL := Lib.hid hl
  have HB := Lib.hid hb
  clear hl hb
  go_wp2
  go_ret
  exact ⟨_, rfl, ⟨_, _, _, rfl⟩, HL.out, HB.out⟩

set_option maxHeartbeats 1000000 in
set_option maxRecDepth 20000 in
theorem fixesOf_any (L : List Fx) (w : World) (hL : L.length ≤ 1000) :
    Calls Try.prog 76 #[ckV L] w (CfPost L w) := by
  have HE := Lib.hid (fun W : World => eachFix_any L W)
  have HC := Lib.hid (collectF_any L w.heap.size (w.alloc (.cells #[ckV L] 70)) hL (heap_alloc_new w _))
  have HS := Lib.hid (show (w.alloc (.cells #[ckV L] 70)).heap.size = w.heap.size + 1 by simp)
  have HB0 := Lib.hid (show Below w.heap.size w (w.alloc (.cells #[ckV L] 70)) from (Below.refl _ w).alloc (Nat.le_refl _) _)
  obtain ⟨vt, vu, eV⟩ := ckV_iface L
  rw [eV] at HE HC HS HB0 ⊢
  clear eV
  go_enter Try.func76, Try.ntmps76
  go_wp2_with fail
  refine (HE.out _).mono ?_
  rintro e w1 ⟨rfl, rfl⟩
  go_wp2_with fail
  refine HC.out.mono ?_
  rintro e w2 ⟨v, rfl, ⟨a, l, c, rfl⟩, hl, hb⟩
  have HL := Lib.hid hl
  have HB := Lib.hid hb
  clear hl hb
  go_wp2
  go_ret
  exact ⟨_, rfl, ⟨_, _, _, rfl⟩, ownsRow_base HL.out (by rw [HS.out]; omega), HB0.out.trans HB.out⟩

end Go.Proofs.Ytidlloelinmnnaa
