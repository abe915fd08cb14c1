/- Settings of the program: newSetting. -/
import Derived.Test.YthelaffjpmcdbaaStI
namespace Go.Proofs.Ythelaffjpmcdbaa
open Go.RowKit
set_option linter.unusedVariables false

/-- the zero value of a setting (a seat's own facts may lack it) -/
theorem Try.zeroSt : (Try.prog.info? 64).map (·.zero) = some (some (.agg (.slice none 0 0 :: .slice none 0 0 :: List.replicate 100 (.int .u8 0)).toArray)) := by kernel_rfl
theorem run_zeroSt (W : World) : (zeroValue 64).run Try.prog W = .ok (.agg (.slice none 0 0 :: .slice none 0 0 :: List.replicate 100 (.int .u8 0)).toArray) W := by
  obtain ⟨i, hi, hz⟩ := Option.map_eq_some_iff.1 Try.zeroSt
  simp [zeroValue, typeInfo, hi, hz]
theorem Try.infoSt : (Try.prog.info? 64).map (·.size) = some 102 := by kernel_rfl

set_option maxRecDepth 20000 in
set_option maxHeartbeats 16000000 in
theorem newSetting_no (v : Value) (lo hi n : Nat) (Z : Nat → Int) (w : World) (hv : RdT lo hi w v n Z) (hh : hi ≤ w.heap.size) (hn : n ≤ 9223372036854775807) (hok : ¬ LsOk n Z) :
    Calls Try.prog 56 #[v] w (fun e w' => e = .returned (.tuple #[.pointer none, .bool false]) ∧ Below w.heap.size w w') := by
  have HLV := Lib.hid (implLabelsValid_any v lo hi n Z w hv hh hn)
  rw [lsB_no hok] at HLV
  obtain ⟨av, cv, rfl⟩ := hv.shape
  clear hok hv
  go_enter Try.func56, Try.ntmps56
  go_wp2_with fail
  refine HLV.out.mono ?_
  rintro e w1 ⟨rfl, hb1⟩
  have HB1 := Lib.hid hb1
  clear hb1
  go_wp2
  go_ret2
  exact ⟨rfl, HB1.out⟩

theorem ownsRow_block {w w' : World} {base : Nat} {e : TypeId} {size : Nat} {v : Value} {n : Nat} {xs : List Value} (h : w.ownsRow base e size v n xs) (hb : ∀ q, v.ownBlock = some q → w'.heap[q]? = w.heap[q]?) : w'.ownsRow base e size v n xs := by
  obtain ⟨h1, h2⟩ := h
  refine ⟨h1, ?_⟩
  rcases h2 with h2 | ⟨g, cap, cur, hv, hg, hbk, r⟩
  · exact Or.inl h2
  · exact Or.inr ⟨g, cap, cur, hv, hg, (hb g (by subst hv; rfl)).trans hbk, r⟩

set_option maxRecDepth 20000 in
theorem rowIs_newSt (w : World) (lv : Value) : (w.alloc (.cells (lv :: .slice none 0 0 :: List.replicate 100 (.int .u8 0)).toArray 64)).rowIs w.heap.size 64 102 (fun j => if j = 0 then lv else if j = 1 then .slice none 0 0 else if j < 2 then .int .u8 46 else .int .u8 0) := by
  have h := World.rowIs_alloc w (lv :: .slice none 0 0 :: List.replicate 100 (.int .u8 0)).toArray 64 (fun j => if j = 0 then lv else if j = 1 then .slice none 0 0 else if j < 2 then .int .u8 46 else .int .u8 0) (fun i hi => by
    have hi' : i < 102 := by simpa using hi
    rw [List.getElem?_toArray]
    rcases i with _ | _ | i
    · rfl
    · rfl
    · rw [List.getElem?_cons_succ, List.getElem?_cons_succ, List.getElem?_replicate, if_pos (by omega), if_neg (by omega), if_neg (by omega), if_neg (by omega)])
  have hs : (lv :: .slice none 0 0 :: List.replicate 100 (.int .u8 0)).toArray.size = 102 := by simp
  rwa [hs] at h

def NwPost (n hi : Nat) (Z : Nat → Int) (lv : Value) (w : World) (e : Ending) (w' : World) : Prop :=
  ∃ B S sv, e = .returned (.tuple #[.pointer (some ⟨B, 0, none⟩), .bool true]) ∧ St B S n hi Z lv sv (fun _ => -1) (mpK Z n) w' ∧ w.heap.size ≤ B ∧ w.heap.size ≤ S ∧ Below w.heap.size w w' ∧ ((S < w'.heap.size ∧ 0 < n) ∨ (n = 0 ∧ sv = .slice none 0 0 ∧ S = w'.heap.size + 1000))

theorem nsV_rep (k : Nat) : nsV (List.replicate k (-1)) ++ [.int .i64 (-1)] = nsV (List.replicate (k + 1) (-1)) := by
  rw [List.replicate_succ']; simp [nsV]

theorem rep_push {base : Nat} {w : World} {v : Value} {k : Nat} (h : w.ownsRow base 3 1 v (k + 1) (nsV (List.replicate k (-1)) ++ [.int .i64 (-1)])) : Nums base w v (List.replicate (k + 1) (-1)) := by
  unfold Nums
  rw [← nsV_rep, List.length_replicate]
  exact h
theorem st_setSides {w : World} {B : Nat} {lv sv : Value} {M : Nat → Int} (h : w.rowIs B 64 102 (stF lv sv M)) (v : Value) : (w.setCell ⟨B, 1, none⟩ v).rowIs B 64 102 (stF lv v M) :=
  (h.set 1 v).congr (fun j hj => by
    unfold stF
    by_cases e3 : j = 1
    · rw [if_pos e3, if_neg (by omega), if_pos e3]
    · rw [if_neg e3]
      by_cases e0 : j = 0
      · rw [if_pos e0, if_pos e0]
      · rw [if_neg e0, if_neg e0, if_neg e3, if_neg e3])
theorem nums_setB {w : World} {B : Nat} {v : Value} {L : List Int} (h : Nums (B + 1) w v L) (u : Value) : Nums (B + 1) (w.setCell ⟨B, 1, none⟩ u) v L :=
  ownsRow_block h (fun q hq => Below.heap_setCell _ _ _ _ (by have := (h.lt q hq).1; show q ≠ B; omega))

set_option maxRecDepth 20000 in
set_option maxHeartbeats 16000000 in
theorem newSetting_yes (v : Value) (hi n : Nat) (Z : Nat → Int) (w : World) (hv : RdT 0 hi w v n Z) (hh : hi ≤ w.heap.size) (hok : LsOk n Z) :
    Calls Try.prog 56 #[v] w (NwPost n hi Z v w) := by
  have HLV := Lib.hid (implLabelsValid_any v 0 hi n Z w hv hh (by have := hok.1; omega))
  rw [lsB_yes hok] at HLV
  have HV := Lib.hid hv
  obtain ⟨ao, cap, b, off, rfl, h2, h3, h4, h5, h6⟩ := hv
  obtain ⟨i0, hi0, hz0, hz1, hz2⟩ := info_parts Try.infoI
  have H6 := Lib.hid h6
  have HZ := Lib.hid hok.2
  have hn6 := hok.1
  clear h6 h4 hok
  go_enter Try.func56, Try.ntmps56
  go_wp2_with fail
  refine HLV.out.mono ?_
  rintro e w1 ⟨rfl, hb1⟩
  have HB1 := Lib.hid hb1
  have hs1 := hb1.size
  clear hb1
  have hzv := run_zeroSt w1
  go_wp2
  clear hzv
  go_loopw [14] (fun c wr => ∃ i : Nat, i ≤ 100 ∧ c = .int .i64 i ∧ wr.rowIs w1.heap.size 64 102 (fun j => if j = 0 then .slice ao n cap else if j = 1 then .slice none 0 0 else if j < 2 + i then .int .u8 46 else .int .u8 0) ∧ Below w1.heap.size w1 wr) (fun c _ => 100 - (intOf c).toNat)
  case atStart => exact ⟨0, by omega, rfl, rowIs_newSt w1 _, (Below.refl _ _).alloc (Nat.le_refl _) _⟩
  case round =>
    obtain ⟨i, hle, rfl, hrow, hbel⟩ := hrel
    by_cases hlt : i < 100
    · have hlt' : (i : Int) < 100 := by omega
      have q1 := hrow.cell (i := 2 + i) (by omega)
      rw [if_neg (by omega), if_neg (by omega), if_neg (by omega)] at q1
      have q2 := hrow.frozen (2 + i)
      have R1 := Lib.hid ((hrow.set (2 + i) (.int .u8 46)).congr (g := fun j => if j = 0 then .slice ao n cap else if j = 1 then .slice none 0 0 else if j < 2 + (i + 1) then .int .u8 46 else .int .u8 0) (fun j hj => by
        by_cases e : j = 2 + i
        · rw [if_pos e, if_neg (by omega), if_neg (by omega), if_pos (by omega)]
        · rw [if_neg e]
          split
          · rfl
          · split
            · rfl
            · by_cases e2 : j < 2 + i
              · rw [if_pos e2, if_pos (by omega)]
              · rw [if_neg e2, if_neg (by omega)]))
      have R2 := Lib.hid (hbel.setCell (p := ⟨w1.heap.size, 2 + i, none⟩) (Nat.le_refl _) (.int .u8 46))
      clear hrow hbel h5
      go_wp2
      go_roundw
      case rel => exact ⟨i + 1, by omega, by go_num, R1.out, R2.out⟩
      case measure => simp [intOf]; omega
    · have hi100 : i = 100 := by omega
      have hlt' : ¬ (i : Int) < 100 := by omega
      have R1 := Lib.hid (hrow.congr (g := stF (.slice ao n cap) (.slice none 0 0) (mpK Z 0)) (fun j hj => by
        unfold stF
        split
        · rfl
        · by_cases e3 : j = 1
          · rw [if_pos e3, if_pos e3]
          · rw [if_neg e3, if_neg e3, if_pos (by omega)]; rfl))
      have R2 := Lib.hid hbel
      clear hrow hbel h5
      have HF0 := Lib.hid (show Nums (w1.heap.size + 1) wr (.slice none 0 0) (List.replicate 0 (-1)) from nums_none _ _)
      go_wp2
      go_loopw [25] (fun c wr => ∃ (k : Nat) (sv : Value), k ≤ n ∧ c = .int .i64 k ∧ wr.rowIs w1.heap.size 64 102 (stF (.slice ao n cap) sv (mpK Z k)) ∧ Nums (w1.heap.size + 1) wr sv (List.replicate k (-1)) ∧ Below w1.heap.size w1 wr ∧ (k = 0 → sv = .slice none 0 0)) (fun c _ => n - (intOf c).toNat)
      case atStart => exact ⟨0, _, Nat.zero_le _, rfl, R1.out, HF0.out, R2.out, fun _ => rfl⟩
      case round =>
        obtain ⟨k, sv, hk, rfl, hrow, hnu, hbel, hnil⟩ := hrel
        have HNIL := Lib.hid hnil
        clear hnil
        by_cases hlt : k < n
        · obtain ⟨b', off', cap', he, _, _, hbb1, hbb2, hc6⟩ := HV.out.open (by omega)
          simp only [Value.slice.injEq] at he
          obtain ⟨rfl, _, rfl⟩ := he
          have hlt' : (k : Int) < n := by omega
          obtain ⟨c0, c1, c2, c3⟩ := four_of (w := wr) (fun j hj => ((HB1.out.trans (hbel.mono hs1)).cell (p := ⟨b', off' + j, none⟩) (by show b' < _; omega)).trans (hc6 j hj)) hlt
          have hz := (HZ.out k hlt).1
          have hx := hz.1
          have hy := hz.2.1
          clear hz hc6
          have HM := Lib.hid (show ∀ j, mpK Z (k + 1) j = if j = (10 * Z (k * 4 + 1) + Z (k * 4)).toNat then -1 else mpK Z k j from fun j => rfl)
          obtain ⟨X, eX⟩ : ∃ X, Z (k * 4) = X := ⟨_, rfl⟩
          obtain ⟨Y, eY⟩ : ∃ Y, Z (k * 4 + 1) = Y := ⟨_, rfl⟩
          rw [eX, eY] at HM
          rw [eX] at c0 hx
          rw [eY] at c1 hy
          obtain ⟨A, eA⟩ : ∃ A, Z (k * 4 + 2) = A := ⟨_, rfl⟩
          obtain ⟨G, eG⟩ : ∃ G, Z (k * 4 + 3) = G := ⟨_, rfl⟩
          rw [eA] at c2
          rw [eG] at c3
          obtain ⟨W1, hW1⟩ : ∃ W1, wr.alloc (.cells #[.int .i64 X, .int .i64 Y, .int .i64 A, .int .i64 G] 28) = W1 := ⟨_, rfl⟩
          have hr1 : W1.rowIs w1.heap.size 64 102 (stF (.slice (some ⟨b', off', none⟩) n cap) sv (mpK Z k)) := by rw [← hW1]; exact hrow.alloc _
          have hn1 : Nums (w1.heap.size + 1) W1 sv (List.replicate k (-1)) := by rw [← hW1]; exact World.ownsRow.alloc hnu _
          have hbl1 : Below w1.heap.size w1 W1 := by rw [← hW1]; exact hbel.alloc hbel.size _
          have hN1 : W1.heap[wr.heap.size]? = some (.cells #[.int .i64 X, .int .i64 Y, .int .i64 A, .int .i64 G] 28 (0, 0)) := by rw [← hW1]; exact heap_alloc_new wr _
          obtain ⟨d0, d1, _, _⟩ := cellsLb hN1
          have q1 := hr1.cell (i := 2 + (10 * Y + X).toNat) (by omega)
          rw [show stF (.slice (some ⟨b', off', none⟩) n cap) sv (mpK Z k) (2 + (10 * Y + X).toNat) = .int .u8 (mkB (mpK Z k (10 * Y + X).toNat)) by unfold stF; rw [if_neg (by omega), if_neg (by omega), show 2 + (10 * Y + X).toNat - 2 = (10 * Y + X).toNat by omega]] at q1
          have q2 := hr1.frozen (2 + (10 * Y + X).toNat)
          have R3 := Lib.hid ((hr1.set (2 + (10 * Y + X).toNat) (.int .u8 42)).congr (g := stF (.slice (some ⟨b', off', none⟩) n cap) sv (mpK Z (k + 1))) (fun j hj => by
            unfold stF
            by_cases e1 : j = 2 + (10 * Y + X).toNat
            · rw [if_pos e1, if_neg (by omega), if_neg (by omega), HM.out, if_pos (by omega)]; rfl
            · rw [if_neg e1]
              by_cases e2 : j = 0
              · rw [if_pos e2, if_pos e2]
              · rw [if_neg e2, if_neg e2]
                by_cases e3 : j = 1
                · rw [if_pos e3, if_pos e3]
                · rw [if_neg e3, if_neg e3, HM.out, if_neg (by omega)]))
          have HP := Lib.hid (fun W : World => placeIndex_any X Y W (by omega) (by omega) (by omega) (by omega))
          have hne : ∀ q, sv.ownBlock = some q → q ≠ w1.heap.size := fun q hq => by have := (hn1.lt q hq).1; omega
          have R4 := Lib.hid (show Nums (w1.heap.size + 1) (W1.setCell ⟨w1.heap.size, 2 + (10 * Y + X).toNat, none⟩ (.int .u8 42)) sv (List.replicate k (-1)) from ownsRow_block hn1 (fun q hq => Below.heap_setCell _ _ _ _ (hne q hq)))
          have R5 := Lib.hid (hbl1.setCell (p := ⟨w1.heap.size, 2 + (10 * Y + X).toNat, none⟩) (Nat.le_refl _) (.int .u8 42))
          clear hrow hnu hbel hr1 hn1 hbl1 hN1 eX eY eA eG hne
          go_wp2_with fail
          try rw [hW1]
          clear hW1 c0 c1 c2 c3
          go_region_with ((go_at_call 76; (with_reducible refine (HP.out _).mono ?_); rintro e w2 ⟨rfl, rfl⟩))
          all_goals (
            obtain ⟨W2, hW2⟩ : ∃ W2, (W1.setCell ⟨w1.heap.size, 2 + (10 * Y + X).toNat, none⟩ (.int .u8 42)).drew = W2 := ⟨_, rfl⟩
            have r3 := R3.out.drew
            have r4 : Nums (w1.heap.size + 1) (W1.setCell ⟨w1.heap.size, 2 + (10 * Y + X).toNat, none⟩ (.int .u8 42)).drew sv (List.replicate k (-1)) := ownsRow_block R4.out (fun _ _ => rfl)
            have r5 := below_drewN R5.out 1
            have r5 : Below w1.heap.size w1 (W1.setCell ⟨w1.heap.size, 2 + (10 * Y + X).toNat, none⟩ (.int .u8 42)).drew := r5
            rw [hW2] at r3 r4 r5
            rw [hW2]
            have T3 := Lib.hid r3
            have T4 := Lib.hid r4
            have T5 := Lib.hid r5
            have d1 : W2.cell? ⟨w1.heap.size, 1, none⟩ = some sv := r3.cell (i := 1) (by omega)
            have hlt2 := r3.lt
            have hln : (List.replicate k (-1 : Int)).length = k := by simp
            obtain ⟨sa, sc, hsv⟩ := r4.shape
            rw [hln] at hsv
            have T6 := Lib.hid (show W2.ownsRow (w1.heap.size + 1) 3 1 sv k (nsV (List.replicate k (-1))) by have h := r4; unfold Nums at h; rw [hln] at h; exact h)
            clear r3 r4 r5 hW2 q1 q2 d0 R3 R4 R5)
          all_goals subst hsv
          all_goals go_wp2_with (first | (at_builtin; refine wpList_append_own _ rfl _ _ 26 rfl (w1.heap.size + 1) 3 i0 (.int .i64 0) 1 8 Try.underlying26 hi0 hz0 hz1 hz2 rfl (by decide) _ k (nsV (List.replicate k (-1))) rfl (World.ownsRow.alloc T6.out _) ⟨W2.heap.size, 0, none⟩ 1 1 [.int .i64 (-1)] rfl rfl (World.news_of_block (cs := #[.int .i64 (-1)]) (t := 3) (fr := (0, 0)) (heap_alloc_new W2 _)) (by simp [Value.oneCell']) (by unfold maxLen; omega) (by omega) (by have := T5.out.size; simp; omega) ?_; intro v' w4 hown4 hg4 _; obtain ⟨ta, tc, rfl⟩ := own_shape hown4; have hr4 := T3.out.of_block (w' := w4) ((hg4.block w1.heap.size (by simp; omega) (fun q => by have := (T4.out.lt _ q.symm).1; omega)).trans (Below.heap_alloc W2 _ _ hlt2)); have f0 := hr4.cell (i := 1) (by omega); have f1 := hr4.frozen 1))
          all_goals (
            have hb4 := (T5.out.alloc T5.out.size (.cells #[.int .i64 (-1)] 3)).grown hg4 (by have := T5.out.size; simp; omega) (fun q hq => by have := (T4.out.lt q hq).1; omega)
            have hnu4 := rep_push hown4
            have U3 := Lib.hid (fun u => st_setSides hr4 u)
            have U4 := Lib.hid (fun u => nums_setB hnu4 u)
            have U5 := Lib.hid (fun u => hb4.setCell (p := ⟨w1.heap.size, 1, none⟩) (Nat.le_refl _) u)
            clear hown4 hg4 hb4 hr4 hnu4)
          all_goals go_wp2
          all_goals go_roundw
          all_goals first | exact ⟨k + 1, _, by omega, by go_num, U3.out _, U4.out _, U5.out _, fun h => by omega⟩ | (clear U3 U4 U5 T3 T4 T5 T6; simp only [List.length_replicate] at *; simp [intOf]; omega)
        · obtain rfl : k = n := by omega
          have R3 := Lib.hid hrow
          have R4 := Lib.hid hnu
          have R5 := Lib.hid (HB1.out.trans (hbel.mono hs1))
          have hlt := hrow.lt
          clear hrow hnu hbel
          go_wp2
          go_ret2
          have how := R4.out.owI (fun x hx => by have := List.eq_of_mem_replicate hx; omega)
          have hln : (List.replicate k (-1 : Int)).length = k := by simp
          rw [hln] at how
          have hgz : ∀ i, i < k → nsZ (List.replicate k (-1)) i = -1 := fun i hi => by unfold nsZ; simp [hi]
          have hlist := HV.out.same (SameIn.below R5.out hh)
          by_cases hk0 : k = 0
          · have hvn := HNIL.out hk0
            exact ⟨w1.heap.size, wr.heap.size + 1000, sv, rfl, ⟨hlist, by omega, by omega, by omega, Or.inl ⟨hvn, hk0⟩, R3.out⟩, hs1, by omega, R5.out, Or.inr ⟨hk0, hvn, rfl⟩⟩
          rcases how with ⟨_, hk0'⟩ | ⟨S, N, scap, F, hv0, hs1', hs2', hrow, hN, hcn, hcm, hF, hZr⟩
          · exact absurd hk0' hk0
          · exact ⟨w1.heap.size, S, sv, rfl, ⟨hlist, by omega, by omega, by omega, Or.inr ⟨S, N, scap, F, hv0, Nat.le_refl _, Nat.lt_succ_self _, hrow, hN, hcn, hcm, fun i hi => by rw [hF i hi, hgz i hi], fun i _ => by show _ ≤ (-1 : Int) ∧ (-1 : Int) ≤ _; omega⟩, R3.out⟩, hs1, by omega, R5.out, Or.inl ⟨hrow.lt, by omega⟩⟩

end Go.Proofs.Ythelaffjpmcdbaa
