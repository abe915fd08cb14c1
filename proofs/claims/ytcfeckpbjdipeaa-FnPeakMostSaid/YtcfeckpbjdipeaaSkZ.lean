/- Sinks: what is reckoned. -/
import Derived.Test.YtcfeckpbjdipeaaM3
import Derived.Test.YtcfeckpbjdipeaaWtZ
import Derived.Maps.AppendAt
import Derived.RangeFuncWrites
import Derived.Test.YtcfeckpbjdipeaaM1
import Derived.Deep.Onto
namespace Go.Proofs.Ytcfeckpbjdipeaa
set_option linter.unusedVariables false

open Classical in
/-- the sinks below k, ascending -/
noncomputable def skL (R C : Nat) (Z : Nat → Int) : Nat → List (Ix (R * C))
  | 0 => []
  | k + 1 => skL R C Z k ++ (if h : k < R * C then (if nxt R C Z ⟨k, h⟩ = ⟨k, h⟩ then [⟨k, h⟩] else []) else [])

theorem skL_yes {R C : Nat} {Z : Nat → Int} (i : Ix (R * C)) (h : nxt R C Z i = i) : skL R C Z (i.1 + 1) = skL R C Z i.1 ++ [i] := by
  have e : (⟨i.1, i.2⟩ : Ix (R * C)) = i := rfl
  simp only [skL, i.2, dif_pos]
  rw [e, if_pos h]
theorem skL_no {R C : Nat} {Z : Nat → Int} (i : Ix (R * C)) (h : nxt R C Z i ≠ i) : skL R C Z (i.1 + 1) = skL R C Z i.1 := by
  have e : (⟨i.1, i.2⟩ : Ix (R * C)) = i := rfl
  simp only [skL, i.2, dif_pos]
  rw [e, if_neg h, List.append_nil]
theorem skL_mono (R C : Nat) (Z : Nat → Int) : ∀ {a b : Nat}, a ≤ b → skL R C Z a <+: skL R C Z b := by
  intro a b h
  induction h with
  | refl => exact List.prefix_refl _
  | step _ ih => exact ih.trans ⟨_, rfl⟩
theorem skL_len (R C : Nat) (Z : Nat → Int) : ∀ k, (skL R C Z k).length ≤ k
  | 0 => by simp [skL]
  | k + 1 => by
    have := skL_len R C Z k
    simp only [skL, List.length_append]
    by_cases h : k < R * C
    · simp only [h, dif_pos]
      split <;> simp <;> omega
    · simp [h]; omega

end Go.Proofs.Ytcfeckpbjdipeaa

/- The iterator of the sinks, in the program. -/
namespace Go.Proofs.Ytcfeckpbjdipeaa
open Go.RowKit Go.Shelf
set_option linter.unusedVariables false

set_option maxRecDepth 100000 in
set_option maxHeartbeats 4000000 in
theorem sinks1_in (n : Nat) (hn : 1 ≤ n) (l Bm R C gg cap cnt : Nat) (hR : R ≤ 7) (hC : C ≤ 7) (Z : Nat → Int) (J Jx : List (Ix (R * C)) → World → Prop)
    (W : World) (hJ : AbidesFrom W.heap.size J)
    (hY : ∀ pre x W1, J pre W1 → pre.length < (skL R C Z (R * C)).length → YieldAt Fence.wide (n - 1) Try.prog l #[.int .i64 (x : Ix (R * C)).1] W1 fun e W' =>
      (e = .returned (.bool true) ∧ J (pre ++ [x]) W' ∧ Kb2 Bm gg W1 W') ∨ (e = .returned (.bool false) ∧ Jx (pre ++ [x]) W'))
    (hBm : Bm < W.heap.size)
    (hm0 : W.cell? ⟨Bm, 0, none⟩ = some (.int .i64 R)) (hm1 : W.cell? ⟨Bm, 1, none⟩ = some (.int .i64 C)) (hm2 : W.cell? ⟨Bm, 2, none⟩ = some (.slice (some ⟨gg, 0, none⟩) cnt cap)) (hrv : Rv W R C cnt gg cap Z) (h0 : J [] W) :
    CallsIn Fence.wide n Try.prog 122 #[.func (.yield l) #[] #[], .pointer (some ⟨Bm, 0, none⟩)] W fun e W' => (∃ v, e = .returned v) ∧
      ((∃ ys, ys = skL R C Z (R * C) ∧ J ys W') ∨ (∃ pre, pre <+: skL R C Z (R * C) ∧ Jx pre W')) := by
  have H0 := Lib.hid hm0
  have H1 := Lib.hid hm1
  have H2 := Lib.hid hm2
  have HRV := Lib.hid hrv
  have HJ := Lib.hid @hJ
  have HJ0 := Lib.hid h0
  have HY := Lib.hid hY
  have hcn := hrv.n_eq
  have h49 := mul_le_49 hR hC
  have hcn49 : cnt ≤ 49 := by omega
  have HCN := Lib.hid hcn
  clear hY h0 hJ hm0 hm1 hrv hcn
  refine callsIn_of_wp Try.func122 rfl trivial ?_ rfl
  simp only [Try.ntmps122, List.size_toArray, List.length_cons, List.length_nil, Nat.reduceAdd, Nat.reduceSub, Array.replicate_succ, Array.replicate_zero, List.push_toArray, List.append_toArray, List.nil_append, List.cons_append]
  gi_wp2
  clear hm2
  gi_loopw [7] (fun s wr => ∃ k : Nat, k ≤ cnt ∧ s = .int .i64 k ∧ J (skL R C Z k) wr ∧ Kb2 Bm gg W wr) (fun s _ => cnt - (intOf s).toNat)
  case atStart => exact ⟨0, Nat.zero_le _, rfl, HJ0.out, ⟨Nat.le_refl _, rfl⟩, Nat.le_refl _, rfl⟩
  case round =>
    obtain ⟨k, hk, rfl, hJs, hkb⟩ := hrel
    by_cases hlt : k < cnt
    · obtain ⟨i, hi'⟩ : ∃ i : Ix (R * C), i.1 = k := ⟨⟨k, by rw [← HCN.out]; exact hlt⟩, rfl⟩
      subst hi'
      have x0 := (hkb.1.cell 0).trans H0.out
      have x1 := (hkb.1.cell 1).trans H1.out
      have x2 := (hkb.1.cell 2).trans H2.out
      have HRVr := Lib.hid (HRV.out.kb hkb.2)
      have hB0 : Bm < wr.heap.size := Nat.lt_of_lt_of_le hBm hkb.1.1
      have hG0 : gg < wr.heap.size := HRVr.out.lt
      have HK := Lib.hid hkb
      have HJK := Lib.hid hJs
      have hi48 := i.2
      clear hkb hJs
      by_cases hs : nxt R C Z i = i
      · have HS := Lib.hid hs
        have HL := Lib.hid (skL_yes i hs)
        have HPRE := Lib.hid (skL_mono R C Z (a := i.1 + 1) (b := R * C) (by omega))
        have HLEN := Lib.hid (show (skL R C Z i.1).length < (skL R C Z (R * C)).length by
          have := HPRE.out.length_le
          rw [HL.out] at this
          simp at this
          omega)
        clear hs
        gi_wp2_with (first
          | (refine ⟨trivial, ?_⟩; gi_at_call 123; refine (callsIn_wide.2 (isSink_yes R C gg cap cnt hR hC Z i _ HRVr.out HS.out)).mono ?_; rintro e w2 ⟨rfl, hb2⟩; have HB2 := Lib.hid hb2; clear hb2 x0 x1 x2; obtain ⟨fn, tmps, assign, body, hy, hRd⟩ := HY.out (skL R C Z i.1) i w2 (J_below HJ.out HJK.out HB2.out) HLEN.out))
        refine hRd.mono ?_
        rintro e W' (⟨rfl, hJ', hk'⟩ | ⟨rfl, hJx'⟩)
        · have HJ' := Lib.hid hJ'
          have HK' := Lib.hid hk'
          clear hJ' hk' hy hRd
          gi_wp2
          go_roundw
          case rel => exact ⟨i.1 + 1, by omega, by go_num, by rw [HL.out]; exact HJ'.out, (HK.out.trans (Kb2.of_below HB2.out hB0 hG0)).trans HK'.out⟩
          case measure => simp [intOf]; omega
        · have HJX := Lib.hid hJx'
          clear hJx' hy hRd
          gi_wp2
          refine bodyPost_ret (results_none rfl _ _ _) rfl ?_
          exact ⟨⟨_, rfl⟩, .inr ⟨_, HPRE.out, by rw [HL.out]; exact HJX.out⟩⟩
      · have HS := Lib.hid hs
        have HL := Lib.hid (skL_no i hs)
        clear hs
        gi_wp2_with (refine ⟨trivial, ?_⟩; gi_at_call 123; refine (callsIn_wide.2 (isSink_no R C gg cap cnt hR hC Z i _ HRVr.out HS.out)).mono ?_; rintro e w2 ⟨rfl, hb2⟩; have HB2 := Lib.hid hb2; clear hb2 x0 x1 x2)
        refine ⟨fun _ h => (by cases h), ?_⟩
        gi_wp2
        go_roundw
        case rel => exact ⟨i.1 + 1, by omega, by go_num, by rw [HL.out]; exact J_below HJ.out HJK.out HB2.out, HK.out.trans (Kb2.of_below HB2.out hB0 hG0)⟩
        case measure => simp [intOf]; omega
    · obtain rfl : k = cnt := by omega
      have HJK := Lib.hid hJs
      clear hJs hkb
      gi_wp2
      go_end0
      exact ⟨⟨_, rfl⟩, .inl ⟨_, rfl, by rw [← HCN.out]; exact HJK.out⟩⟩

theorem sinks_stops (n : Nat) (hn : 1 ≤ n) (Bm R C gg cap cnt : Nat) (hR : R ≤ 7) (hC : C ≤ 7) (Z : Nat → Int) (w : World) (hBm : Bm < w.heap.size)
    (hm : w.cell? ⟨Bm, 0, none⟩ = some (.int .i64 R) ∧ w.cell? ⟨Bm, 1, none⟩ = some (.int .i64 C) ∧ w.cell? ⟨Bm, 2, none⟩ = some (.slice (some ⟨gg, 0, none⟩) cnt cap)) (hrv : Rv w R C cnt gg cap Z) :
    SeqStopsK Fence.wide n Try.prog 122 #[.pointer (some ⟨Bm, 0, none⟩)] (fun x : Ix (R * C) => #[Value.int .i64 x.1]) (Kb2 Bm gg) (fun ys => ys = skL R C Z (R * C)) (fun pre => pre <+: skL R C Z (R * C)) (skL R C Z (R * C)).length w := fun l J Jx W hW hJ _ hY h0 =>
  sinks1_in n hn l Bm R C gg cap cnt hR hC Z J Jx W hJ hY (Nat.lt_of_lt_of_le hBm hW.size)
    ((hW.cell (p := ⟨Bm, 0, none⟩) hBm).trans hm.1) ((hW.cell (p := ⟨Bm, 1, none⟩) hBm).trans hm.2.1) ((hW.cell (p := ⟨Bm, 2, none⟩) hBm).trans hm.2.2) (hrv.keep hW (Nat.le_refl _)) h0

set_option maxHeartbeats 1000000 in
set_option maxRecDepth 20000 in
theorem sinks_any (R C gg cnt cap : Nat) (w : World) :
    Calls Try.prog 87 #[.agg #[.int .i64 R, .int .i64 C, .slice (some ⟨gg, 0, none⟩) cnt cap]] w fun e w' =>
      e = .returned (.func (.func 122) #[] #[.pointer (some ⟨w.heap.size, 0, none⟩)]) ∧ w' = w.alloc (.cells #[.int .i64 R, .int .i64 C, .slice (some ⟨gg, 0, none⟩) cnt cap] 50) := by
  go_enter Try.func87, Try.ntmps87
  go_wp2
  go_ret
  exact ⟨rfl, rfl⟩

end Go.Proofs.Ytcfeckpbjdipeaa

/- slices.Collect over an iterator of the program that gives indexes. -/
namespace Go.Proofs.Ytcfeckpbjdipeaa
open Go.RowKit Go.Shelf
set_option linter.unusedVariables false
attribute [local go_sem] Oper.semAt_some

/-- what a collected list leaves -/
def CoPost {M : Nat} (L : List (Ix M)) (w : World) (e : Ending) (w' : World) : Prop :=
  ∃ v, e = .returned v ∧ Lists w.heap.size w' v L ∧ Below w.heap.size w w'

set_option maxRecDepth 100000 in
set_option maxHeartbeats 4000000 in
theorem appendSeq_any {M : Nat} (gf : Nat) (lb : Array Value) (eg : ∀ args w, (callFunc gf args).run Try.prog w = .ok (.enter gf args) w) (Bm gg : Nat) (L : List (Ix M)) (Sp : List (Ix M) → Prop) (N : Nat) (hN : N ≤ 1000) (w : World) (hBm : Bm < w.heap.size) (hgg : gg < w.heap.size)
    (hseq : SeqStopsK Fence.wide 4 Try.prog gf lb (fun x : Ix M => #[Value.int .i64 x.1]) (Kb2 Bm gg) (fun ys => ys = L) Sp N w) :
    Calls Try.prog 121 #[.slice none 0 0, .func (.func gf) #[] lb] w (CoPost L w) := by
  obtain ⟨i0, hi, hz0, hz1, hz2⟩ := info_parts Try.infoI
  refine (callsIn_wide (n := 5)).1 ?_
  refine callsIn_of_wp_marks Try.func121 rfl trivial ?_ rfl
  simp only [Try.ntmps121, List.size_toArray, List.length_cons, List.length_nil, Nat.reduceAdd, Nat.reduceSub, Array.replicate_succ, Array.replicate_zero, List.push_toArray, List.append_toArray, List.nil_append, List.cons_append]
  gi_wp2
  have bO := Boxed.new w 27 (.slice none 0 0)
  have hB0 : Below w.heap.size w (w.alloc (.cells #[.slice none 0 0] 27)) := (Below.refl _ w).alloc (Nat.le_refl _) _
  refine wpIn_rangeFunc_ownG rfl (by omega) (gf := gf) (lb := lb) rfl trivial eg hseq Kb2.trans (kb2_b (by simp; omega) (by simp; omega)) hB0 (fun _ => rfl)
    (fun pre W => (∃ v, Boxed W w.heap.size 27 v ∧ W.ownsRow w.heap.size 3 1 v pre.length (ixV pre) ∧ (v = .slice none 0 0 ↔ pre = [])) ∧ Below w.heap.size w W)
    (fun _ _ _ => False)
    (OwnFrom.and (Own.from (holdsRow_own w.heap.size w.heap.size 27 3 1 (fun pre : List (Ix M) => pre.length) (fun pre => ixV pre) (fun pre v => v = .slice none 0 0 ↔ pre = [])) _) (ownFrom_below (Nat.le_refl _) (by simp)))
    (fun _ _ _ _ _ hs _ _ => hs)
    ⟨⟨_, bO, World.ownsRow_nil _ _ _ _, by simp⟩, hB0⟩
    (fun x => { tmps := #[.slice none 0 0, .func (.func gf) #[] lb, .pointer (some ⟨w.heap.size, 0, none⟩), undef, .slice none 0 0, .int .i64 x.1, .func (.func gf) #[] lb, .int .i64 x.1, undef, undef, undef, undef, undef], defers := [] }) ?assign ?body ?done ?stop
  case assign =>
    intro l x W K hK
    gi_wp2
    exact hK
  case body =>
    rintro l pre x W ⟨⟨v, hv, hrow, hnil⟩, hB⟩ hlt
    have hc := hv.cell
    have hpl : pre.length ≤ 1000 := by omega
    gi_wp2_with (gi_at_builtin; refine wpListIn_append_own _ rfl _ _ 27 rfl w.heap.size 3 i0 (.int .i64 0) 1 8 Try.underlying27 hi hz0 hz1 hz2 rfl (by decide) _ pre.length (ixV pre) rfl (hrow.alloc _) ⟨W.heap.size, 0, none⟩ 1 1 [.int .i64 x.1] rfl rfl (cell_one_new _ _ _) (by simp [Value.oneCell']) (by unfold maxLen; omega) (by omega) (by have := hB.size; simp; omega) ?_; intro v' w1 hown' hgrow _; obtain ⟨g', cap', rfl⟩ := ownsRow_succ hown'; obtain ⟨hv1, hv2, hr2, hk2, hb2⟩ := hv.appended (by decide) hrow hB.size (Nat.le_refl _) hown' hgrow; have hc1 := hv1.cell; have hf1 := hv1.frozen)
    exact ⟨hk2.from _, Kb2.of_below hb2 hBm hgg, ⟨_, hv2, by simpa [ixV] using hr2, by simp⟩, hB.trans hb2⟩
  case done =>
    rintro D ys W hD rfl ⟨⟨v, hv, hrow, hnil⟩, hB⟩ hK
    have hc := hv.cell
    gi_wp2
    refine ⟨by simp, .inl ⟨_, _, rfl, run_takeDeferred hK, ?_⟩⟩
    exact ⟨_, results_tmp rfl _ _ _, v, rfl, ownsRow_putObj hrow _ hK rfl, hB.trans (belowK_b (w := w) (Nat.le_refl _) W D _ _ (by simp at hD; omega) hK rfl rfl)⟩
  case stop =>
    rintro D c pre W _ _ h _
    exact h.elim

set_option maxHeartbeats 1000000 in
set_option maxRecDepth 20000 in
theorem collect_any {M : Nat} (gf : Nat) (lb : Array Value) (eg : ∀ args w, (callFunc gf args).run Try.prog w = .ok (.enter gf args) w) (Bm gg : Nat) (L : List (Ix M)) (Sp : List (Ix M) → Prop) (N : Nat) (hN : N ≤ 1000) (w : World) (hBm : Bm < w.heap.size) (hgg : gg < w.heap.size)
    (hseq : SeqStopsK Fence.wide 4 Try.prog gf lb (fun x : Ix M => #[Value.int .i64 x.1]) (Kb2 Bm gg) (fun ys => ys = L) Sp N w) :
    Calls Try.prog 86 #[.func (.func gf) #[] lb] w (CoPost L w) := by
  have HA := Lib.hid (appendSeq_any gf lb eg Bm gg L Sp N hN w hBm hgg hseq)
  clear hseq eg
  go_enter Try.func86, Try.ntmps86
  go_wp2_with fail
  refine HA.out.mono ?_
  rintro e w2 ⟨v, rfl, hl, hb⟩
  obtain ⟨a, c, rfl⟩ := hl.shape
  have HL := Lib.hid hl
  have HB := Lib.hid hb
  clear hl hb
  go_wp2
  go_ret
  exact ⟨_, rfl, HL.out, HB.out⟩

end Go.Proofs.Ytcfeckpbjdipeaa

/- WaterRun of the program and of the model. -/
namespace Go.Proofs.Ytcfeckpbjdipeaa
open Go.RowKit Go.Shelf
set_option linter.unusedVariables false

theorem Lists.owI {B : Nat} {w : World} {v : Value} {M : Nat} {l : List (Ix M)} (h : Lists B w v l) (hM : M ≤ 49) : OwI B w.heap.size w v l.length (ixZ l) := by
  obtain ⟨hlen, ⟨rfl, h0⟩ | ⟨b, cap, cur, rfl, hB, hb, hc, hcap, hcs, ht⟩⟩ := h
  · exact Or.inl ⟨rfl, h0⟩
  · have hlt : b < w.heap.size := (Array.getElem?_eq_some_iff.1 hb).1
    refine Or.inr ⟨b, cur.size, cap, fun i => (cur[i]?).getD (.int .i64 0), rfl, hB, hlt, ⟨cur, hb, rfl, fun i hi => by simp [hi]⟩, by rw [hcs]; omega, hc, hcap, fun i hi => ?_, fun i hi => ?_⟩
    · have e1 : cur.toList[i]? = (ixV l)[i]? := by rw [← ht, List.getElem?_take_of_lt (by omega)]
      have e2 : cur[i]? = some (.int .i64 (ixZ l i)) := by rw [← Array.getElem?_toList, e1, ixZ_at _ hi]; simp [ixV, hi]
      show (cur[i]?).getD _ = _
      rw [e2]; rfl
    · rw [ixZ_at _ hi]; have := l[i].2; omega

open Classical in
noncomputable def G.runV (g : G) (r c : Int) : List (Ix (g.n * g.len 0)) := if h : g.Cell r c then runL g.n (g.len 0) g.flat ⟨r.toNat * g.len 0 + c.toNat, wn_lt h⟩ else []
theorem G.runV_no {g : G} {r c : Int} (h : ¬ g.Cell r c) : g.runV r c = [] := by unfold G.runV; rw [dif_neg h]
theorem G.runV_yes {g : G} {r c : Nat} (h : g.Cell r c) (i : Ix (g.n * g.len 0)) (hi : i.1 = r * g.len 0 + c) : g.runV r c = runL g.n (g.len 0) g.flat i := by
  unfold G.runV
  rw [dif_pos h]
  have e : (⟨(r : Int).toNat * g.len 0 + (c : Int).toNat, wn_lt h⟩ : Ix (g.n * g.len 0)) = i := Subtype.ext (by rw [hi]; simp)
  rw [e]

/-- a list of indexes and a bool -/
def LbPost {M : Nat} (b : Bool) (l : List (Ix M)) (w : World) (e : Ending) (w' : World) : Prop :=
  ∃ v, e = .returned (.tuple #[v, .bool b]) ∧ Lists w.heap.size w' v l ∧ Below w.heap.size w w'

theorem lists_nil {M : Nat} (B : Nat) (w : World) : Lists B w (.slice none 0 0) ([] : List (Ix M)) := World.ownsRow_nil _ _ _ _

theorem LbPost.mk' {M : Nat} {b : Bool} {L l : List (Ix M)} {w w' : World} {v : Value} (e : L = l) (h : Lists w.heap.size w' v l) (hb : Below w.heap.size w w') : LbPost b L w (.returned (.tuple #[v, .bool b])) w' := ⟨v, rfl, e ▸ h, hb⟩

end Go.Proofs.Ytcfeckpbjdipeaa

/- WaterSinks of the model. -/
namespace Go.Proofs.Ytcfeckpbjdipeaa
open Go.RowKit
set_option linter.unusedVariables false

open Classical in
noncomputable def G.skV (g : G) : List (Ix (g.n * g.len 0)) := if g.Valid then skL g.n (g.len 0) g.flat (g.n * g.len 0) else []
theorem G.skV_yes {g : G} (h : g.Valid) : g.skV = skL g.n (g.len 0) g.flat (g.n * g.len 0) := by unfold G.skV; rw [if_pos h]
theorem G.skV_no {g : G} (h : ¬ g.Valid) : g.skV = [] := by unfold G.skV; rw [if_neg h]

/-- a list of indexes alone -/
def LvPost {M : Nat} (l : List (Ix M)) (w : World) (e : Ending) (w' : World) : Prop :=
  ∃ v, e = .returned v ∧ Lists w.heap.size w' v l ∧ Below w.heap.size w w'
theorem LvPost.mk' {M : Nat} {L l : List (Ix M)} {w w' : World} {v : Value} (e : L = l) (h : Lists w.heap.size w' v l) (hb : Below w.heap.size w w') : LvPost L w (.returned v) w' := ⟨v, rfl, e ▸ h, hb⟩

end Go.Proofs.Ytcfeckpbjdipeaa

/- WaterSinks of the program. -/
namespace Go.Proofs.Ytcfeckpbjdipeaa
open Go.RowKit Go.Shelf
set_option linter.unusedVariables false

/-- the sinks as an iterator at rest: what Collect asks -/
theorem sinks_seq (R C gg cap cnt : Nat) (hR : R ≤ 7) (hC : C ≤ 7) (Z : Nat → Int) (w w' : World) (hrv : Rv w R C cnt gg cap Z) (B : Nat) (hB : B = w.heap.size)
    (hw' : w' = w.alloc (.cells #[.int .i64 R, .int .i64 C, .slice (some ⟨gg, 0, none⟩) cnt cap] 50)) :
    Calls Try.prog 86 #[.func (.func 122) #[] #[.pointer (some ⟨B, 0, none⟩)]] w' (CoPost (skL R C Z (R * C)) w') := by
  subst hB
  have hb : Below w.heap.size w w' := by rw [hw']; exact (Below.refl _ _).alloc (Nat.le_refl _) _
  have hsz : w'.heap.size = w.heap.size + 1 := by rw [hw']; simp
  have k1 : w'.heap[w.heap.size]? = some (.cells #[.int .i64 R, .int .i64 C, .slice (some ⟨gg, 0, none⟩) cnt cap] 50 (0, 0)) := by
    rw [hw']; exact heap_alloc_new w _
  have hgl := hrv.lt
  have hlen := skL_len R C Z (R * C)
  have h49 := mul_le_49 hR hC
  exact collect_any 122 #[.pointer (some ⟨w.heap.size, 0, none⟩)] (enters_of Try.func122 (by kernel_rfl) rfl) w.heap.size gg (skL R C Z (R * C)) _ _ (by omega) w' (by omega) (by omega)
    (sinks_stops 4 (by omega) w.heap.size R C gg cap cnt hR hC Z w' (by omega) (three_cells k1) (hrv.keep hb (Nat.le_refl _)))

set_option maxHeartbeats 4000000 in
set_option maxRecDepth 100000 in
theorem implWaterSinks_any (v : Value) (lo hi : Nat) (g : G) (w : World) (hv : RdM lo hi w v g) (hh : hi ≤ w.heap.size) :
    Calls Try.prog 48 #[v] w (LvPost g.skV w) := by
  by_cases h : g.Valid
  case neg =>
    have HC := Lib.hid (reliefOf_no v lo hi g w hv hh h)
    have HA := Lib.hid (G.skV_no h)
    clear hv h
    go_enter Try.func48, Try.ntmps48
    go_wp2_with fail
    refine HC.out.mono ?_
    rintro e w1 ⟨rfl, hb1⟩
    have HB1 := Lib.hid (hb1.alloc hb1.size (.cells #[.int .i64 0, .int .i64 0, .slice none 0 0] 50))
    clear hb1
    go_wp2
    go_ret
    exact LvPost.mk' HA.out (lists_nil _ _) HB1.out
  case pos =>
    have HC := Lib.hid (reliefOf_yes v lo hi g w hv hh h)
    have HA := Lib.hid (G.skV_yes h)
    have hn7 := h.1.2
    have hl7 := h.2.1.2
    clear hv h
    go_enter Try.func48, Try.ntmps48
    go_wp2_with fail
    refine HC.out.mono ?_
    intro e w1 hq
    obtain ⟨n, gg, cap, rfl, hrv, hb1⟩ := hq.rv
    have HLOC := Lib.hid (heap_alloc_new w1 (.cells #[.int .i64 g.n, .int .i64 (g.len 0), .slice (some ⟨gg, 0, none⟩) n cap] 50))
    have HB1 := Lib.hid (hb1.alloc hb1.size (.cells #[.int .i64 g.n, .int .i64 (g.len 0), .slice (some ⟨gg, 0, none⟩) n cap] 50))
    have HRV := Lib.hid (hrv.keep ((Below.refl w1.heap.size w1).alloc (Nat.le_refl _) (.cells #[.int .i64 g.n, .int .i64 (g.len 0), .slice (some ⟨gg, 0, none⟩) n cap] 50)) (Nat.le_refl _))
    clear hq hrv hb1
    go_wp2_with (first
      | (go_at_call 87; refine (sinks_any g.n (g.len 0) gg n cap _).mono ?_; rintro e w4 ⟨rfl, hw4⟩; have HW4 := Lib.hid hw4; have HB4 := Lib.hid (show Below _ _ w4 from hw4 ▸ (Below.refl _ _).alloc (Nat.le_refl _) _); clear hw4)
      | (go_at_call 86; refine (sinks_seq g.n (g.len 0) gg cap n hn7 hl7 g.flat _ _ HRV.out _ (by simp) HW4.out).mono ?_; rintro e w5 ⟨v5, rfl, hl5, hb5⟩; have HB5 := Lib.hid hb5; have HL5 := Lib.hid hl5; clear hb5 hl5))
    go_ret
    exact LvPost.mk' HA.out (World.ownsRow.mono HL5.out (Nat.le_trans HB1.out.size HB4.out.size)) (HB1.out.trans ((HB4.out.trans (HB5.out.mono HB4.out.size)).mono HB1.out.size))

theorem LvPost.ls {M : Nat} {l : List (Ix M)} {w w' : World} {e : Ending} (h : LvPost l w e w') (hM : M ≤ 49) : LsPost1 l.length (ixZ l) w e w' := by
  obtain ⟨v, he, hl, hb⟩ := h
  obtain ⟨a, c, rfl⟩ := hl.shape
  exact ⟨_, he, ⟨_, _, _, rfl⟩, (hl.owI hM).rd, hb⟩
theorem LvPost.lg {M : Nat} {l : List (Ix M)} {w w' : World} {e : Ending} (h : LvPost l w e w') (hM : M ≤ 49) : LgPost1 l.length (ixZ l) w e w' := by
  obtain ⟨v, he, hl, hb⟩ := h
  obtain ⟨a, c, rfl⟩ := hl.shape
  exact ⟨_, he, ⟨_, _, _, rfl⟩, hl.owI hM, hb⟩
theorem LvPost.nil0 {M : Nat} {L : List (Ix M)} {w w' : World} {e : Ending} (h : LvPost L w e w') (e0 : L = []) : LvPost ([] : List (Ix 0)) w e w' := by
  subst e0
  obtain ⟨v, he, hl, hb⟩ := h
  exact ⟨v, he, hl, hb⟩

end Go.Proofs.Ytcfeckpbjdipeaa

/- WaterRun of the model. -/
namespace Go.Proofs.Ytcfeckpbjdipeaa
open Go.RowKit
set_option linter.unusedVariables false

theorem LbPost.ls {M : Nat} {b : Bool} {l : List (Ix M)} {w w' : World} {e : Ending} (h : LbPost b l w e w') (hM : M ≤ 49) : LsPost b l.length (ixZ l) w e w' := by
  obtain ⟨v, he, hl, hb⟩ := h
  obtain ⟨a, c, rfl⟩ := hl.shape
  exact ⟨_, he, ⟨_, _, _, rfl⟩, (hl.owI hM).rd, hb⟩
theorem LbPost.lg {M : Nat} {b : Bool} {l : List (Ix M)} {w w' : World} {e : Ending} (h : LbPost b l w e w') (hM : M ≤ 49) : LgPost b l.length (ixZ l) w e w' := by
  obtain ⟨v, he, hl, hb⟩ := h
  obtain ⟨a, c, rfl⟩ := hl.shape
  exact ⟨_, he, ⟨_, _, _, rfl⟩, hl.owI hM, hb⟩

end Go.Proofs.Ytcfeckpbjdipeaa

/- WaterBasins of the model. -/
namespace Go.Proofs.Ytcfeckpbjdipeaa
open Go.RowKit
set_option linter.unusedVariables false

open Classical in
noncomputable def G.bsV (g : G) : List (Ix (g.n * g.len 0)) := if g.Valid then bsL g.n (g.len 0) g.flat (g.n * g.len 0) else []
theorem G.bsV_yes {g : G} (h : g.Valid) : g.bsV = bsL g.n (g.len 0) g.flat (g.n * g.len 0) := by unfold G.bsV; rw [if_pos h]
theorem G.bsV_no {g : G} (h : ¬ g.Valid) : g.bsV = [] := by unfold G.bsV; rw [if_neg h]

/-- the last cell of a list -/
theorem Lists.lastCell {B : Nat} {w : World} {M : Nat} {l : List (Ix M)} {x : Ix M} {a : Option Addr} {n c : Nat} (h : Lists B w (.slice a n c) l) (hM : M ≤ 49) (hx : l[l.length - 1]? = some x) :
    ∃ b, a = some ⟨b, 0, none⟩ ∧ n = l.length ∧ w.cell? ⟨b, l.length - 1, none⟩ = some (.int .i64 x.1) ∧ l.length ≤ c := by
  obtain ⟨hlen, ⟨e, h0⟩ | ⟨b, cap, cur, e, hB, hb, hc, hcap, hcs, ht⟩⟩ := h
  · have : l = [] := List.eq_nil_of_length_eq_zero h0
    subst this
    simp at hx
  · simp only [Value.slice.injEq] at e
    obtain ⟨rfl, rfl, rfl⟩ := e
    have hpos : l.length - 1 < l.length := by
      rcases Nat.lt_or_ge (l.length - 1) l.length with h | h
      · exact h
      · rw [List.getElem?_eq_none h] at hx; cases hx
    refine ⟨b, rfl, rfl, ?_, hc⟩
    have e1 : cur.toList[l.length - 1]? = (ixV l)[l.length - 1]? := by rw [← ht, List.getElem?_take_of_lt (by omega)]
    have e2 : cur[l.length - 1]? = some (.int .i64 x.1) := by rw [← Array.getElem?_toList, e1]; simp [ixV, hx]
    simp [World.cell?, hb, e2]

end Go.Proofs.Ytcfeckpbjdipeaa

/- A row of cells is its owner's own: what a round of an iterator leaves of it. -/
namespace Go.Proofs.Ytcfeckpbjdipeaa
open Go.RowKit
set_option linter.unusedVariables false

theorem rowIs_own {β : Type} (b : Nat) (t : TypeId) (n : Nat) (f : β → Nat → Value) : Own (fun s W => W.rowIs b t n (f s)) := fun s X Y row hs hg hrow =>
  hs.of_block (hg.block b hs.lt (fun e => by
    obtain ⟨o, ho, hc⟩ := hrow b e.symm
    obtain ⟨cs, h1, _⟩ := hs
    rw [h1] at ho; cases ho; cases hc))

/-- where the run of cell j ends, as a number -/
def ezV (R C : Nat) (Z : Nat → Int) (j : Nat) : Int := if h : j < R * C then ((endI R C Z ⟨j, h⟩).1 : Int) else 0
theorem ezV_at {R C : Nat} {Z : Nat → Int} (i : Ix (R * C)) : ezV R C Z i.1 = ((endI R C Z i).1 : Int) := by
  unfold ezV
  rw [dif_pos i.2]

/-- the row of ends: below k they stand, at k stands the last of what has come -/
def bzF (R C : Nat) (Z : Nat → Int) (k : Nat) (pre : List (Ix (R * C))) (j : Nat) : Value :=
  if j < k then .int .i64 (ezV R C Z j) else if j = k then .int .i64 ((pre.getLast?.map fun x => (x.1 : Int)).getD 0) else .int .i64 0
theorem bzF_start {R C : Nat} {Z : Nat → Int} (j : Nat) : bzF R C Z 0 [] j = .int .i64 0 := by
  unfold bzF; simp
theorem bzF_put {R C : Nat} {Z : Nat → Int} (k : Nat) (pre : List (Ix (R * C))) (x : Ix (R * C)) (j : Nat) :
    (if j = k then Value.int .i64 (x.1 : Int) else bzF R C Z k pre j) = bzF R C Z k (pre ++ [x]) j := by
  unfold bzF
  by_cases e : j = k
  · subst e; simp
  · simp [e]
theorem bzF_next {R C : Nat} {Z : Nat → Int} (hZ : ∀ x, x < R * C → 0 ≤ Z x ∧ Z x ≤ 99) (i : Ix (R * C)) (j : Nat) : bzF R C Z i.1 (runL R C Z i) j = bzF R C Z (i.1 + 1) [] j := by
  have h := endI_at hZ i
  rw [← List.getLast?_eq_getElem?] at h
  unfold bzF
  by_cases e : j = i.1
  · subst e
    simp [h, ezV_at]
  · by_cases e2 : j < i.1
    · simp [e2, Nat.lt_succ_of_lt e2]
    · have e3 : ¬ j < i.1 + 1 := by omega
      simp [e, e2, e3]

end Go.Proofs.Ytcfeckpbjdipeaa

/- The basins of the program. -/
namespace Go.Proofs.Ytcfeckpbjdipeaa
open Go.RowKit Go.Shelf
set_option linter.unusedVariables false
attribute [local go_sem] Oper.semAt_some

theorem three_allocs (w : World) (o1 o2 o3 : Obj) : let W := ((w.alloc o1).alloc o2).alloc o3
    W.heap[w.heap.size]? = some o1 ∧ W.heap[w.heap.size + 1]? = some o2 ∧ W.heap[w.heap.size + 1 + 1]? = some o3 ∧ W.heap.size = w.heap.size + 3 ∧ Below w.heap.size w W := by
  intro W
  have e1 : (w.alloc o1).heap.size = w.heap.size + 1 := by simp
  have e2 : ((w.alloc o1).alloc o2).heap.size = w.heap.size + 1 + 1 := by simp
  have b2 := fun k hk => Below.heap_alloc (w.alloc o1) o2 k hk
  have b3 := fun k hk => Below.heap_alloc ((w.alloc o1).alloc o2) o3 k hk
  refine ⟨?_, ?_, ?_, by simp [W], ((Below.refl _ _).alloc (Nat.le_refl _) _).alloc (by simp) _ |>.alloc (by simp; omega) _⟩
  · exact ((b3 _ (by omega)).trans (b2 _ (by omega))).trans (heap_alloc_new w o1)
  · have := heap_alloc_new (w.alloc o1) o2
    rw [e1] at this
    exact (b3 _ (by omega)).trans this
  · have := heap_alloc_new ((w.alloc o1).alloc o2) o3
    rw [e2] at this
    exact this

theorem keep_block {β : Type} {B b : Nat} {o : Obj} (hb : b < B) : OwnFrom B (fun (_ : β) W => W.heap[b]? = some o) := fun s X Y row hs hg hrow =>
  (hg.block b (Array.getElem?_eq_some_iff.1 hs).1 (fun e => by have := (hrow b e.symm).1; omega)).trans hs

theorem lists_row {B b : Nat} {W : World} {M : Nat} {l : List (Ix M)} {f : Nat → Value} {n : Nat} (h : W.rowIs b 3 n f) (hB : B ≤ b) (hn : l.length = n) (hn2 : n ≤ 1000) (hf : ∀ j (hj : j < l.length), f j = .int .i64 (l[j].1 : Int)) : Lists B W (.slice (some ⟨b, 0, none⟩) n n) l := by
  obtain ⟨c, h1, h2, h3⟩ := h
  unfold Lists
  refine ⟨by simp [ixV], Or.inr ⟨b, n, c, by rw [hn], hB, h1, by omega, by unfold maxLen; omega, by omega, ?_⟩⟩
  apply List.ext_getElem?
  intro j
  rw [Nat.mul_one]
  by_cases hj : j < l.length
  · rw [List.getElem?_take_of_lt hj, Array.getElem?_toList, h3 j (by omega), hf j hj]
    simp [ixV, hj]
  · rw [List.getElem?_eq_none (by rw [List.length_take]; omega), List.getElem?_eq_none (by simp [ixV]; omega)]

theorem bsL_get {R C : Nat} {Z : Nat → Int} : ∀ (k j : Nat) (hj : j < (bsL R C Z k).length), k ≤ R * C → ((bsL R C Z k)[j].1 : Int) = ezV R C Z j
  | 0, j, hj, _ => by simp [bsL] at hj
  | k + 1, j, hj, hk => by
    have hl := bsL_len R C Z k (by omega)
    have hl1 := bsL_len R C Z (k + 1) hk
    have e : bsL R C Z (k + 1) = bsL R C Z k ++ [endI R C Z ⟨k, by omega⟩] := bsL_succ (Z := Z) ⟨k, by omega⟩
    by_cases h : j < k
    · have h2 : j < (bsL R C Z k).length := by omega
      have := bsL_get k j h2 (by omega)
      rw [← this]
      congr 2
      simp only [e]
      rw [List.getElem_append_left h2]
    · have ej : j = k := by omega
      subst ej
      rw [show ezV R C Z j = ((endI R C Z ⟨j, by omega⟩).1 : Int) from ezV_at (Z := Z) ⟨j, by omega⟩]
      congr 2
      simp only [e]
      rw [List.getElem_append_right (by omega)]
      simp

end Go.Proofs.Ytcfeckpbjdipeaa

/- WaterBasins of the program. -/
namespace Go.Proofs.Ytcfeckpbjdipeaa
open Go.RowKit
set_option linter.unusedVariables false

end Go.Proofs.Ytcfeckpbjdipeaa

/- Counting a number in a list, and in the basins. -/
namespace Go.Proofs.Ytcfeckpbjdipeaa
open Go.RowKit
set_option linter.unusedVariables false

def cntZ (Z : Nat → Int) (s : Int) : Nat → Nat
  | 0 => 0
  | k + 1 => cntZ Z s k + (if Z k = s then 1 else 0)
theorem cntZ_yes {Z : Nat → Int} {s : Int} {k : Nat} (h : Z k = s) : cntZ Z s (k + 1) = cntZ Z s k + 1 := by simp [cntZ, h]
theorem cntZ_no {Z : Nat → Int} {s : Int} {k : Nat} (h : Z k ≠ s) : cntZ Z s (k + 1) = cntZ Z s k := by simp [cntZ, h]
theorem cntZ_le (Z : Nat → Int) (s : Int) : ∀ k, cntZ Z s k ≤ k
  | 0 => by simp [cntZ]
  | k + 1 => by have := cntZ_le Z s k; unfold cntZ; split <;> omega
theorem cntZ_mono (Z : Nat → Int) (s : Int) {a b : Nat} (h : a ≤ b) : cntZ Z s a ≤ cntZ Z s b := by
  induction h with
  | refl => exact Nat.le_refl _
  | step _ ih => exact Nat.le_trans ih (Nat.le_add_right _ _)
theorem cntZ_pos {Z : Nat → Int} {s : Int} {n j : Nat} (hj : j < n) (h : Z j = s) : 0 < cntZ Z s n := by
  have h1 := cntZ_yes h
  have h2 := cntZ_mono Z s (a := j + 1) (b := n) (by omega)
  omega
theorem cntZ_ex {Z : Nat → Int} {s : Int} : ∀ {n : Nat}, 0 < cntZ Z s n → ∃ j, j < n ∧ Z j = s
  | 0, h => by simp [cntZ] at h
  | n + 1, h => by
    by_cases e : Z n = s
    · exact ⟨n, by omega, e⟩
    · rw [cntZ_no e] at h
      obtain ⟨j, h1, h2⟩ := cntZ_ex h
      exact ⟨j, by omega, h2⟩
theorem cntZ_congr {Z Z' : Nat → Int} {s : Int} : ∀ {n : Nat}, (∀ j, j < n → Z j = Z' j) → cntZ Z s n = cntZ Z' s n
  | 0, _ => rfl
  | n + 1, h => by
    have h1 := cntZ_congr (s := s) (n := n) (fun j hj => h j (by omega))
    simp only [cntZ, h1, h n (by omega)]

set_option maxHeartbeats 1000000 in
set_option maxRecDepth 20000 in
theorem l2Count_any (v : Value) (lo hi n : Nat) (Z : Nat → Int) (s : Int) (w : World) (hv : RdI lo hi w v n Z) (hn : n ≤ 1000) :
    Calls Try.prog 118 #[v, .int .i64 s] w fun e w' => e = .returned (.int .i64 (cntZ Z s n)) ∧ w = w' := by
  obtain ⟨ao, cap, b, off, rfl, h2, h3, h4, h5, h6⟩ := hv
  have H5 := Lib.hid h5
  have H6 := Lib.hid h6
  clear h4 h5 h6
  go_enter Try.func118, Try.ntmps118
  go_wp2
  go_loop [5, 6] (fun o i => ∃ k : Nat, k ≤ n ∧ i = .int .i64 k ∧ o = .int .i64 (cntZ Z s k)) (fun _ i => n - (intOf i).toNat)
  case atStart => exact ⟨0, Nat.zero_le _, rfl, rfl⟩
  case round =>
    obtain ⟨k, hk, rfl, rfl⟩ := hrel
    have hle := cntZ_le Z s k
    by_cases hlt : k < n
    · have hlt' : (k : Int) < n := by omega
      obtain ⟨rfl, _, _⟩ := H5.out (by omega)
      have c1 := H6.out k hlt
      by_cases hz : Z k = s
      · have HT := Lib.hid (cntZ_yes hz)
        rw [hz] at c1
        have hx : (s == s) = true := by simp
        generalize cntZ Z s k = q at hle HT ⊢
        clear hz
        go_wp2
        go_round
        case rel => exact ⟨k + 1, by omega, by go_num, by rw [HT.out]; go_num⟩
        case measure => simp [intOf]; omega
      · have HT := Lib.hid (cntZ_no hz)
        have hx : (Z k == s) = false := by rw [beq_eq_false_iff_ne]; exact hz
        generalize cntZ Z s k = q at hle HT ⊢
        generalize Z k = zk at c1 hx hz
        clear hz
        go_wp2
        go_round
        case rel => exact ⟨k + 1, by omega, by go_num, by rw [HT.out]⟩
        case measure => simp [intOf]; omega
    · obtain rfl : k = n := by omega
      have hge : ¬ (k : Int) < k := by omega
      go_wp2
      go_ret
      exact ⟨rfl, rfl⟩

theorem IsRun.last_sink {R C : Nat} {Z : Nat → Int} {i : Ix (R * C)} {l : List (Ix (R * C))} (h : IsRun R C Z i l) : nxt R C Z (l.getLastD i) = l.getLastD i := by
  induction h with
  | sink h => simpa using h
  | flow h1 h2 ih =>
    rename_i i l
    obtain ⟨x, t, rfl⟩ : ∃ x t, l = x :: t := by
      rcases h2.cons with ⟨_, e⟩ | ⟨_, t, e, _⟩ <;> exact ⟨_, _, e⟩
    rw [List.getLastD_cons] at ih ⊢
    rw [List.getLastD_cons]
    exact ih
theorem endI_sink {R C : Nat} {Z : Nat → Int} (hZ : ∀ x, x < R * C → 0 ≤ Z x ∧ Z x ≤ 99) (i : Ix (R * C)) : nxt R C Z (endI R C Z i) = endI R C Z i := (runL_is hZ i).last_sink
theorem endI_self {R C : Nat} {Z : Nat → Int} (hZ : ∀ x, x < R * C → 0 ≤ Z x ∧ Z x ≤ 99) {i : Ix (R * C)} (h : nxt R C Z i = i) : endI R C Z i = i := by
  rcases (runL_is hZ i).cons with ⟨_, e⟩ | ⟨hn, _⟩
  · unfold endI; rw [e]; rfl
  · exact absurd h hn

/-- the index s is that of a sink -/
def SinkAt (R C : Nat) (Z : Nat → Int) (s : Int) : Prop := ∃ i : Ix (R * C), s = (i.1 : Int) ∧ nxt R C Z i = i
theorem sink_cnt {R C : Nat} {Z : Nat → Int} (hZ : ∀ x, x < R * C → 0 ≤ Z x ∧ Z x ≤ 99) (s : Int) : SinkAt R C Z s ↔ 0 < cntZ (ezV R C Z) s (R * C) := by
  constructor
  · rintro ⟨i, rfl, h⟩
    exact cntZ_pos i.2 (by rw [ezV_at, endI_self hZ h])
  · intro h
    obtain ⟨j, hj, e⟩ := cntZ_ex h
    rw [show ezV R C Z j = ((endI R C Z ⟨j, hj⟩).1 : Int) from ezV_at (Z := Z) ⟨j, hj⟩] at e
    exact ⟨endI R C Z ⟨j, hj⟩, e.symm, endI_sink hZ _⟩

open Classical in
noncomputable def G.bnV (g : G) (s : Int) : Int := if g.Valid ∧ SinkAt g.n (g.len 0) g.flat s then cntZ (ezV g.n (g.len 0) g.flat) s (g.n * g.len 0) else -1
theorem G.bnV_yes {g : G} {s : Int} (h : g.Valid) (k : SinkAt g.n (g.len 0) g.flat s) : g.bnV s = cntZ (ezV g.n (g.len 0) g.flat) s (g.n * g.len 0) := by unfold G.bnV; rw [if_pos ⟨h, k⟩]
theorem G.bnV_no {g : G} {s : Int} (h : ¬ (g.Valid ∧ SinkAt g.n (g.len 0) g.flat s)) : g.bnV s = -1 := by unfold G.bnV; rw [if_neg h]

theorem bsZc (R C : Nat) (Z : Nat → Int) {j : Nat} (hj : j < R * C) : ixZ (bsL R C Z (R * C)) j = ezV R C Z j := by
  have hl := bsL_len R C Z (R * C) (Nat.le_refl _)
  rw [ixZ_at _ (by omega)]
  exact bsL_get _ _ _ (Nat.le_refl _)

end Go.Proofs.Ytcfeckpbjdipeaa
