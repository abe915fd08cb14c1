/- The model's GridText. -/
import Derived.Test.YteoncpifjifjlaaDoorTextB
namespace Go.Proofs.YteoncpifjifjlaaDoor
open Go.RowKit
set_option linter.unusedVariables false

theorem app_mk (a b : List UInt8) : (⟨a.toArray⟩ : ByteArray) ++ ⟨b.toArray⟩ = ⟨(a ++ b).toArray⟩ := by
  apply ByteArray.ext
  simp

/-- what the model has ahead of cell c of row r, the row's own mark laid -/
def inn (C : Nat) (Z : Nat → Int) (r c : Nat) : List UInt8 := if c = 0 then txt C Z (r * C) ++ (if r = 0 then [] else [47]) else txt C Z (r * C + c)

theorem inn_step (C : Nat) (Z : Nat → Int) (r c : Nat) (hc : c < C) : inn C Z r c ++ (if c = 0 then [] else [32]) ++ dig (Z (r * C + c)) = inn C Z r (c + 1) := by
  have hd := div_at r c C hc
  simp only [inn, Nat.add_eq_zero_iff, Nat.one_ne_zero, and_false, if_false]
  show _ = txt C Z (r * C + c) ++ sep C (r * C + c) ++ dig (Z (r * C + c))
  congr 1
  by_cases h0 : c = 0
  · subst h0
    simp only [if_true, List.append_nil, Nat.add_zero, sep]
    congr 1
    by_cases hr : r = 0
    · subst hr; simp
    · have : r * C ≠ 0 := Nat.mul_ne_zero hr (by omega)
      simp [hr, this]
  · have h1 : r * C + c ≠ 0 := by omega
    simp only [h0, if_false, sep, h1, hd.2]

theorem inn_len (C : Nat) (Z : Nat → Int) (r c : Nat) : (inn C Z r c).length ≤ 3 * (r * C + c) + 1 := by
  unfold inn
  by_cases h0 : c = 0
  · have := txt_len C Z (r * C)
    subst h0
    simp only [if_true, List.length_append]
    have h1 : (if r = 0 then ([] : List UInt8) else [47]).length ≤ 1 := by split <;> simp
    omega
  · have := txt_len C Z (r * C + c)
    simp only [h0, if_false]
    omega

theorem inn_end (C : Nat) (Z : Nat → Int) (r : Nat) (hC : 0 < C) : inn C Z r C = txt C Z ((r + 1) * C) := by
  have : C ≠ 0 := by omega
  simp only [inn, this, if_false, Nat.succ_mul]

set_option maxHeartbeats 1000000 in
theorem specGridText_no (v : Value) (lo hi : Nat) (g : G) (w : World) (hv : RdM lo hi w v g) (hh : hi ≤ w.heap.size) (h : ¬ g.Valid) :
    Calls Tryd.prog 49 #[v] w (StrPost (txtOf g) w) := by
  have HC := Lib.hid (specValid_any v lo hi g w hv)
  have HV := Lib.hid (G.vB_no h)
  have HE := Lib.hid (txtOf_no h)
  obtain ⟨ao, cap, b, off, Ao, Cp, rfl, a2, a3, a5, a6, a7⟩ := hv
  clear h a5 a6 a7
  go_enter Tryd.func49, Tryd.ntmps49
  go_wp2
  go_loopw [3, 4] (fun o i wr => o = .string ⟨#[]⟩ ∧ i = .int .i64 0 ∧ wr = w) (fun _ i _ => 0)
  case atStart => exact ⟨rfl, rfl, rfl⟩
  case round =>
    obtain ⟨rfl, rfl, rfl⟩ := hrel
    by_cases hn : g.n = 0
    · have hn' : ¬ ((0 : Int) < g.n) := by omega
      go_wp2
      go_ret
      exact ⟨congrArg (fun s => Ending.returned (Value.string s)) HE.out.symm, Below.refl _ _⟩
    · have hn' : (0 : Int) < g.n := by omega
      go_wp2_with fail
      refine HC.out.mono ?_
      intro e w1 hq
      obtain ⟨rfl, hb⟩ := hq.below
      rw [HV.out]
      have HB := Lib.hid hb
      clear hb hq
      go_wp2
      go_ret
      exact ⟨congrArg (fun s => Ending.returned (Value.string s)) HE.out.symm, HB.out⟩

set_option maxHeartbeats 4000000 in
set_option maxRecDepth 20000 in
theorem specGridText_yes (v : Value) (lo hi : Nat) (g : G) (w : World) (hv : RdM lo hi w v g) (hh : hi ≤ w.heap.size) (h : g.Valid) :
    Calls Tryd.prog 49 #[v] w (StrPost (txtOf g) w) := by
  have HC := Lib.hid (fun (W : World) (hb : Below w.heap.size w W) => specValid_any v lo hi g W (hv.same (SameIn.below hb hh)))
  have HV := Lib.hid (G.vB_yes h)
  have HE := Lib.hid (txtOf_yes h)
  have HH := Lib.hid h
  have HRD := Lib.hid hv
  have hn7 := h.1.2
  have hn1 := h.1.1
  have hl7 := h.2.1.2
  have hl1 := h.2.1.1
  obtain ⟨b0, of0, cap0, _, _, _, rfl, _, _, hbb, _, _⟩ := hv.rowAt (r := 0) (by omega) (by omega)
  clear h hv
  go_enter Tryd.func49, Tryd.ntmps49
  go_wp2
  go_loopw [3, 4] (fun o i wr => ∃ k : Nat, k ≤ g.n ∧ i = .int .i64 k ∧ o = .string ⟨(txt (g.len 0) g.flat (k * g.len 0)).toArray⟩ ∧ Below w.heap.size w wr) (fun _ i _ => g.n - (intOf i).toNat)
  case atStart => exact ⟨0, Nat.zero_le _, rfl, by simp [txt], Below.refl _ _⟩
  case round =>
    obtain ⟨k, hk, rfl, rfl, hbel⟩ := hrel
    have HB := Lib.hid hbel
    clear hbel
    by_cases hlt : k < g.n
    case neg =>
      have e : k = g.n := by omega
      subst e
      go_wp2
      go_ret
      exact ⟨congrArg (fun s => Ending.returned (Value.string s)) HE.out.symm, HB.out⟩
    case pos =>
      have hlt' : (k : Int) < g.n := by omega
      have hlen : g.len k = g.len 0 := (HH.out.2.2 k hlt).1
      have HLEN := Lib.hid hlen
      obtain ⟨x1, y1, z1, c1, d1, cp1, e1, p1, p2, _, hc1, _⟩ := HRD.out.rowAt hlt (by omega)
      simp only [Value.slice.injEq, Option.some.injEq, Addr.mk.injEq, and_true, true_and] at e1
      obtain ⟨⟨rfl, rfl⟩, rfl⟩ := e1
      rw [hlen] at p1
      have P1 := Lib.hid p1
      have P2 := Lib.hid p2
      clear hlen p1 p2
      go_wp2_with fail
      refine (HC.out _ HB.out).mono ?_
      intro e w1 hq
      obtain ⟨rfl, hb1⟩ := hq.below
      rw [HV.out]
      have HB1 := Lib.hid (HB.out.trans (hb1.mono HB.out.size))
      have q1 : w1.cell? ⟨b0, of0 + k, none⟩ = some (.slice (some ⟨c1, d1, none⟩) (g.len 0) cp1) := (HB1.out.cell (p := ⟨b0, of0 + k, none⟩) (by show b0 < _; omega)).trans P1.out
      clear hb1 hq
      go_upto_if 17 with fail
      go_cut [3] (fun o wx => o = .string ⟨(inn (g.len 0) g.flat k 0).toArray⟩ ∧ w1 = wx)
      case first =>
        by_cases hk0 : k = 0
        · subst hk0
          go_wp2
          go_meet
          exact ⟨by simp [inn], rfl⟩
        · have hk0' : (0 : Int) < k := by omega
          have htl := txt_len (g.len 0) g.flat (k * g.len 0)
          have hm := mul_le_49 (show k ≤ 7 by omega) hl7
          have hadd : ∀ W : World, (Op.stringOp .add ⟨(txt (g.len 0) g.flat (k * g.len 0)).toArray⟩ ⟨#[47]⟩).run Tryd.prog W = .ok (.string ⟨(txt (g.len 0) g.flat (k * g.len 0) ++ [47]).toArray⟩) W := fun W => run_string_add_lists (w := W) _ [47] (by omega) (by simp)
          clear htl hm
          go_wp2
          go_meet
          refine ⟨?_, rfl⟩
          rw [show inn (g.len 0) g.flat k 0 = txt (g.len 0) g.flat (k * g.len 0) ++ [47] from by simp [inn, hk0]]
      case rest =>
        obtain ⟨rfl, rfl⟩ := hcut
        have HQ := Lib.hid q1
        clear q1
        go_wp2
        go_loopw [3, 5] (fun o i wr => ∃ c : Nat, c ≤ g.len 0 ∧ i = .int .i64 c ∧ o = .string ⟨(inn (g.len 0) g.flat k c).toArray⟩ ∧ Below w.heap.size w wr) (fun _ i _ => g.len 0 - (intOf i).toNat)
        case atStart => exact ⟨0, Nat.zero_le _, rfl, rfl, HB1.out⟩
        case round =>
          obtain ⟨c, hc, rfl, rfl, hbel⟩ := hrel
          have q2 : wr.cell? ⟨b0, of0 + k, none⟩ = some (.slice (some ⟨c1, d1, none⟩) (g.len 0) cp1) := (hbel.cell (p := ⟨b0, of0 + k, none⟩) (by show b0 < _; omega)).trans P1.out
          have HB2 := Lib.hid hbel
          by_cases hcl : c < g.len 0
          case neg =>
            have e : c = g.len 0 := by omega
            subst e
            clear hbel
            go_wp2
            go_roundw
            case rel => exact ⟨k + 1, by omega, by go_num, by rw [inn_end _ _ _ (by omega)], HB2.out⟩
            case measure => simp [intOf]; omega
          case pos =>
            have hcl' : (c : Int) < g.len 0 := by omega
            have q3 : wr.cell? ⟨c1, d1 + c, none⟩ = some (.int .i64 (g.z k c)) := (hbel.cell (p := ⟨c1, d1 + c, none⟩) (by show c1 < _; omega)).trans (P2.out c (by have := HLEN.out; omega))
            have hz := valid_at HH.out hlt (c := c) (by have := HLEN.out; omega)
            clear hbel
            go_upto_if 30 with fail
            go_cut [3] (fun o wx => o = .string ⟨(inn (g.len 0) g.flat k c ++ (if c = 0 then [] else [32])).toArray⟩ ∧ wr = wx)
            case first =>
              by_cases hk0 : c = 0
              · subst hk0
                go_wp2
                go_meet
                exact ⟨by simp, rfl⟩
              · have hk0' : (0 : Int) < c := by omega
                have hil := inn_len (g.len 0) g.flat k c
                have hm := mul_le_49 (show k ≤ 7 by omega) hl7
                have hadd : ∀ W : World, (Op.stringOp .add ⟨(inn (g.len 0) g.flat k c).toArray⟩ ⟨#[32]⟩).run Tryd.prog W = .ok (.string ⟨(inn (g.len 0) g.flat k c ++ [32]).toArray⟩) W := fun W => run_string_add_lists (w := W) _ [32] (by omega) (by simp)
                clear hil hm
                go_wp2
                go_meet
                refine ⟨?_, rfl⟩
                rw [if_neg hk0]
            case rest =>
              obtain ⟨rfl, rfl⟩ := hcut
              obtain ⟨hz0, hz1⟩ := hz
              have hil := inn_len (g.len 0) g.flat k c
              have hm := mul_le_49 (show k ≤ 7 by omega) hl7
              have hst := inn_step (g.len 0) g.flat k c hcl
              rw [g.flat_at k c hcl] at hst
              obtain ⟨pre, hpre⟩ : ∃ pre : List UInt8, pre = inn (g.len 0) g.flat k c ++ (if c = 0 then [] else [32]) := ⟨_, rfl⟩
              have hpl : pre.length ≤ 1000 := by
                rw [hpre, List.length_append]
                have h1 : (if c = 0 then ([] : List UInt8) else [32]).length ≤ 1 := by split <;> simp
                omega
              rw [← hpre] at hst ⊢
              have HST := Lib.hid hst
              generalize hzz : g.z k c = z at q3 hz0 hz1 HST
              have hadd1 : ∀ W : World, (Op.stringOp .add ⟨pre.toArray⟩ ⟨#[UInt8.ofNat (48 + (z / 10).toNat)]⟩).run Tryd.prog W = .ok (.string ⟨(pre ++ [UInt8.ofNat (48 + (z / 10).toNat)]).toArray⟩) W := fun W => run_string_add_lists (w := W) _ [_] (by omega) (by simp)
              have hadd2 : ∀ W : World, (Op.stringOp .add ⟨(pre ++ [UInt8.ofNat (48 + (z / 10).toNat)]).toArray⟩ ⟨#[UInt8.ofNat (48 + (z % 10).toNat)]⟩).run Tryd.prog W = .ok (.string ⟨(pre ++ [UInt8.ofNat (48 + (z / 10).toNat)] ++ [UInt8.ofNat (48 + (z % 10).toNat)]).toArray⟩) W := fun W => run_string_add_lists (w := W) _ [_] (by simp only [List.length_append, List.length_cons, List.length_nil]; omega) (by simp)
              have ht : z.tdiv 10 = z / 10 := Int.tdiv_eq_ediv_of_nonneg hz0
              have hmo : z.tmod 10 = z % 10 := Int.tmod_eq_emod_of_nonneg hz0
              have hw1 : IntKind.i64.wrap (z / 10) = z / 10 := IntWalk.i64_in _ (by omega)
              have hw2 : IntKind.i64.wrap (z % 10) = z % 10 := IntWalk.i64_in _ (by omega)
              have hd0 : 0 ≤ z / 10 ∧ z / 10 < 10 := by omega
              have hd1 : 0 ≤ z % 10 ∧ z % 10 < 10 := by omega
              have HD0 := Lib.hid hd0
              have HD1 := Lib.hid hd1
              have hbw : b0 < wr.heap.size ∧ c1 < wr.heap.size := by have := HB2.out.size; omega
              have HBW := Lib.hid hbw
              have hk0 : (0 : Int) ≤ k := by omega
              have hc0 : (0 : Int) ≤ c := by omega
              have e1 : ¬ ((⟨pre.toArray⟩ : ByteArray).size + (⟨#[UInt8.ofNat (48 + (z / 10).toNat)]⟩ : ByteArray).size > 9223372036854775807) := by simp [ByteArray.size]; omega
              have e2 : ¬ (9223372036854775807 < pre.length + 1) := by omega
              have e3 : ¬ ((⟨(pre ++ [UInt8.ofNat (48 + (z / 10).toNat)]).toArray⟩ : ByteArray).size + (⟨#[UInt8.ofNat (48 + (z % 10).toNat)]⟩ : ByteArray).size > 9223372036854775807) := by simp [ByteArray.size]; omega
              have e4 : ¬ (9223372036854775807 < pre.length + 1 + 1) := by omega
              clear hil hm hst hpre hd0 hd1 hbw hzz hpl hadd1 hadd2
              go_wp2_with fail
              go_region_held3 (fun w' => w'.cell? ⟨b0, of0 + k, none⟩ = some (.slice (some ⟨c1, d1, none⟩) (g.len 0) cp1) ∧ w'.cell? ⟨c1, d1 + c, none⟩ = some (.int .i64 z))
                (first | exact ⟨q2, q3⟩ | exact s2.out | exact s1.out)
                (first
                  | (go_at_call 71; have hs1 := s1.out; refine (l6Dec_digit (z % 10) _ HD1.out.1 HD1.out.2).mono ?_; rintro e w3 ⟨rfl, hb3⟩; have s2 := Lib.hid (show w3.cell? ⟨b0, of0 + k, none⟩ = some (.slice (some ⟨c1, d1, none⟩) (g.len 0) cp1) ∧ w3.cell? ⟨c1, d1 + c, none⟩ = some (.int .i64 z) from ⟨(hb3.cell (p := ⟨b0, of0 + k, none⟩) (Nat.lt_of_lt_of_le HBW.out.1 HX2.out.size)).trans s1.out.1, (hb3.cell (p := ⟨c1, d1 + c, none⟩) (Nat.lt_of_lt_of_le HBW.out.2 HX2.out.size)).trans s1.out.2⟩); have HX3 := Lib.hid (HB2.out.trans ((HX2.out.trans (hb3.mono HX2.out.size)).mono HB2.out.size)); clear hb3 hs1)
                  | (go_at_call 71; refine (l6Dec_digit (z / 10) _ HD0.out.1 HD0.out.2).mono ?_; rintro e w2 ⟨rfl, hb0⟩; have hb2 := hb0.undrew; have s1 := Lib.hid (show w2.cell? ⟨b0, of0 + k, none⟩ = some (.slice (some ⟨c1, d1, none⟩) (g.len 0) cp1) ∧ w2.cell? ⟨c1, d1 + c, none⟩ = some (.int .i64 z) from ⟨(hb2.cell (p := ⟨b0, of0 + k, none⟩) HBW.out.1).trans q2, (hb2.cell (p := ⟨c1, d1 + c, none⟩) HBW.out.2).trans q3⟩); have HX2 := Lib.hid hb2; clear hb0 hb2))
              all_goals clear ht hmo hw1 hw2
              all_goals go_wp2
              all_goals go_roundw
              case rel => exact ⟨c + 1, by omega, by go_num, by rw [← HST.out, show dig z = [UInt8.ofNat (48 + (z / 10).toNat)] ++ [UInt8.ofNat (48 + (z % 10).toNat)] from rfl, ← List.append_assoc, ← app_mk, ← app_mk]; simp, HX3.out⟩
              case measure => simp [intOf]; omega

end Go.Proofs.YteoncpifjifjlaaDoor
