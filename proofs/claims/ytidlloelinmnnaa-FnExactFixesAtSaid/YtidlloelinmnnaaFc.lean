/- Corrections as a chain of interface values; a list gone through from the end on. -/
import Derived.Test.YtidlloelinmnnaaFx
import Derived.Test.YtidlloelinmnnaaFs
import Derived.Test.YtidlloelinmnnaaFr2
import Derived.Test.YtidlloelinmnnaaBk
namespace Go.Proofs.Ytidlloelinmnnaa
open Go.RowKit
set_option linter.unusedVariables false
attribute [local go_sem] Oper.semAt_some

/-- corrections, one ahead of the others -/
def ckV : List Fx → Value
  | [] => .iface 93 (.agg #[])
  | f :: l => .iface 96 (.agg #[.int .i64 f.r, .int .i64 f.c, .int .i64 f.o, .int .i64 f.n, ckV l])
def fxV (f : Fx) : Value := .agg #[.int .i64 f.r, .int .i64 f.c, .int .i64 f.o, .int .i64 f.n]
theorem ckV_inj : ∀ (l m : List Fx), ckV l = ckV m → l = m
  | [], [], _ => rfl
  | [], f :: m, h => by simp [ckV] at h
  | f :: l, [], h => by simp [ckV] at h
  | f :: l, g :: m, h => by
    simp only [ckV, Value.iface.injEq, Value.agg.injEq, true_and] at h
    have h2 := congrArg Array.toList h
    simp only [List.cons.injEq, Value.int.injEq, true_and, and_true] at h2
    obtain ⟨h1, h2, h3, h4, h5⟩ := h2
    rw [ckV_inj l m h5, Fx.ext4 h1 h2 h3 h4]
noncomputable def ckN (o : Option Value) : Nat := @dite _ (∃ l, o = some (ckV l)) (Classical.propDecidable _) (fun h => (Classical.choose h).length) (fun _ => 0)
theorem ckN_at (l : List Fx) : ckN (some (ckV l)) = l.length := by
  have h : ∃ l', some (ckV l) = some (ckV l') := ⟨l, rfl⟩
  unfold ckN
  rw [dif_pos h]
  exact congrArg List.length (ckV_inj _ _ (Option.some.inj (Classical.choose_spec h))).symm

/-- the corrections that a list of indexes names, the last first -/
def chP (Z : Nat → Int) (pre : List Nat) : List Fx := (pre.map (fxAt Z)).reverse
theorem chP_snoc (Z : Nat → Int) (pre : List Nat) (x : Nat) : chP Z (pre ++ [x]) = fxAt Z x :: chP Z pre := by simp [chP]
theorem chP_all (Z : Nat → Int) (m : Nat) : ∀ t, t ≤ m → chP Z (dnK m t) = fxF Z (m - t) t := by
  intro t
  induction t with
  | zero => intro _; rfl
  | succ t ih =>
    intro h
    have h1 : dnK m (t + 1) = dnK m t ++ [m - 1 - t] := rfl
    rw [h1, chP_snoc, ih (by omega)]
    show _ = fxAt Z (m - (t + 1)) :: fxF Z (m - (t + 1) + 1) t
    rw [show m - 1 - t = m - (t + 1) by omega, show m - (t + 1) + 1 = m - t by omega]
theorem chP_full (Z : Nat → Int) (m : Nat) : chP Z (dnK m m) = fxF Z 0 m := by
  rw [chP_all Z m m (Nat.le_refl _), Nat.sub_self]

set_option maxRecDepth 100000 in
set_option maxHeartbeats 4000000 in
theorem bkf_seq (n : Nat) (hn : 1 ≤ n) (Bm b off m cap : Nat) (ao : Option Addr) (Z : Nat → Int) (w : World) (hBm : Bm < w.heap.size) (hm : m ≤ 1000) (hmc : m ≤ cap)
    (hbox : w.cell? ⟨Bm, 0, none⟩ = some (.slice ao m cap)) (hao : 0 < m → ao = some ⟨b, off, none⟩ ∧ b < w.heap.size) (hc : ∀ i, i < m * 4 → w.cell? ⟨b, off + i, none⟩ = some (.int .i64 (Z i))) :
    SeqB Fence.wide n Try.prog 130 #[.pointer (some ⟨Bm, 0, none⟩)] (fun x : Nat => #[Value.int .i64 x, fxV (fxAt Z x)]) (Kc Bm b) (fun _ _ => False) (fun ys => ys = dnK m m) (fun l => l.length ≤ m) w := by
  intro l J W hW hJo _ hY h0
  have HBX := Lib.hid ((hW.cell (p := ⟨Bm, 0, none⟩) hBm).trans hbox)
  have HC := Lib.hid (fun i (hi : i < m * 4) => (hW.cell (p := ⟨b, off + i, none⟩) (hao (by omega)).2).trans (hc i hi))
  have HJ0 := Lib.hid h0
  have HY := Lib.hid hY
  have HAO := Lib.hid hao
  clear hY h0 hJo hc hbox hW hao
  refine callsIn_of_wp Try.func130 rfl trivial ?_ rfl
  simp only [Try.ntmps130, List.size_toArray, List.length_cons, List.length_nil, Nat.reduceAdd, Nat.reduceSub, Array.replicate_succ, Array.replicate_zero, List.push_toArray, List.append_toArray, List.nil_append, List.cons_append]
  have hbox := HBX.out
  gi_wp2
  clear hbox
  gi_loopw [3] (fun s wr => ∃ i : Nat, i ≤ m ∧ s = .int .i64 ((i : Int) - 1) ∧ J (dnK m (m - i)) wr ∧ Kc Bm b W wr) (fun s _ => (intOf s + 1).toNat)
  case atStart => exact ⟨m, by omega, by go_num, by rw [Nat.sub_self]; exact HJ0.out, Kc.refl _ _ _⟩
  case round =>
    obtain ⟨i', hi', rfl, hJ, hb⟩ := hrel
    cases i' with
    | zero =>
      have HJ1 := Lib.hid hJ
      clear hJ hb
      gi_wp2
      go_end0
      exact ⟨⟨_, rfl⟩, _, rfl, HJ1.out⟩
    | succ i =>
      rw [show (((i + 1 : Nat) : Int) - 1) = (i : Int) by omega]
      have hi0 : i < m := by omega
      have hi0' : (i : Int) < m := by omega
      obtain ⟨rfl, _⟩ := HAO.out (by omega)
      have c0 := (hb.cellA 0).trans HBX.out
      have hcc : ∀ j, j < m * 4 → wr.cell? ⟨b, off + j, none⟩ = some (.int .i64 (Z j)) := fun j hj => (hb.cellB (off + j)).trans (HC.out j hj)
      obtain ⟨q0, q1, q2, q3⟩ := four_of hcc hi0
      have HK := Lib.hid hb
      have HS := Lib.hid (show dnK m (m - i) = dnK m (m - (i + 1)) ++ [i] by rw [show m - i = (m - (i + 1)) + 1 by omega]; show _ ++ [m - 1 - (m - (i + 1))] = _; rw [show m - 1 - (m - (i + 1)) = i by omega])
      obtain ⟨fn, tmps, assign, body, hy, hR⟩ := HY.out (dnK m (m - (i + 1))) i wr hJ (by rw [List.length_append, dnK_len]; simp; omega)
      simp only [fxV, fxAt] at hy
      obtain ⟨X0, e0⟩ : ∃ y, Z (i * 4) = y := ⟨_, rfl⟩
      obtain ⟨X1, e1⟩ : ∃ y, Z (i * 4 + 1) = y := ⟨_, rfl⟩
      obtain ⟨X2, e2⟩ : ∃ y, Z (i * 4 + 2) = y := ⟨_, rfl⟩
      obtain ⟨X3, e3⟩ : ∃ y, Z (i * 4 + 3) = y := ⟨_, rfl⟩
      rw [e0, e1, e2, e3] at hy
      rw [e0] at q0
      rw [e1] at q1
      rw [e2] at q2
      rw [e3] at q3
      clear hJ hb hcc e0 e1 e2 e3
      gi_wp2
      refine hR.mono ?_
      rintro e W' ⟨rfl, hJ', hk'⟩
      have HJ' := Lib.hid hJ'
      have HK' := Lib.hid (HK.out.trans hk')
      clear hJ' hk' hy hR
      gi_wp2
      go_roundw
      case rel => exact ⟨i, by omega, by go_num, by rw [HS.out]; exact HJ'.out, HK'.out⟩
      case measure => simp [intOf]

set_option maxHeartbeats 1000000 in
set_option maxRecDepth 20000 in
theorem bkf_any (a : Option Addr) (n c : Nat) (w : World) :
    Calls Try.prog 114 #[.slice a n c] w (fun e w' => e = .returned (.func (.func 130) #[] #[.pointer (some ⟨w.heap.size, 0, none⟩)]) ∧ w' = w.alloc (.cells #[.slice a n c] 30)) := by
  go_enter Try.func114, Try.ntmps114
  go_wp2
  go_ret
  exact ⟨rfl, rfl⟩

end Go.Proofs.Ytidlloelinmnnaa
