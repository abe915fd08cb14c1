/- Settings of the program: the state in memory; free, mark, set, leave. -/
import Derived.Test.YthelaffjpmcdbaaStM
import Derived.BigQuiet
import Derived.RegionTactic
namespace Go.Proofs.Ythelaffjpmcdbaa
open Go.RowKit
set_option linter.unusedVariables false

/-- only the blocks B and S of those that were there may be changed -/
structure Oth (B S : Nat) (a w : World) : Prop where
  os : w.os = a.os
  tape : w.tape = a.tape
  output : w.output = a.output
  size : a.heap.size ≤ w.heap.size
  block : ∀ k, k < a.heap.size → k ≠ B → k ≠ S → w.heap[k]? = a.heap[k]?
theorem Oth.refl (B S : Nat) (a : World) : Oth B S a a := ⟨rfl, rfl, rfl, Nat.le_refl _, fun _ _ _ _ => rfl⟩
theorem Oth.trans {B S : Nat} {a b c : World} (h : Oth B S a b) (k : Oth B S b c) : Oth B S a c :=
  ⟨k.os.trans h.os, k.tape.trans h.tape, k.output.trans h.output, Nat.le_trans h.size k.size, fun i h1 h2 h3 => (k.block i (Nat.lt_of_lt_of_le h1 h.size) h2 h3).trans (h.block i h1 h2 h3)⟩
theorem Oth.ofBelow {B S : Nat} {a b : World} (h : Below a.heap.size a b) : Oth B S a b := ⟨h.os, h.tape, h.output, h.size, fun k hk _ _ => h.block k hk⟩
theorem Oth.setCell {B S : Nat} {a w : World} (h : Oth B S a w) {p : Addr} (hp : p.block = B ∨ p.block = S) (u : Value) : Oth B S a (w.setCell p u) :=
  h.trans ⟨rfl, rfl, rfl, by simp [World.setCell], fun k _ h1 h2 => Below.heap_setCell _ _ _ _ (by intro e; subst e; rcases hp with e | e <;> omega)⟩
theorem Oth.drew {B S : Nat} {a w : World} (h : Oth B S a w) : Oth B S a w.drew := ⟨h.os, h.tape, h.output, h.size, h.block⟩
theorem Oth.below {B S lo : Nat} {a w : World} (h : Oth B S a w) (h1 : lo ≤ B) (h2 : lo ≤ S) (h3 : lo ≤ a.heap.size) : Below lo a w :=
  ⟨h.os, h.tape, h.output, h.size, fun k hk => h.block k (by omega) (by omega) (by omega)⟩
theorem Oth.sameIn {B S lo hi : Nat} {a w : World} (h : Oth B S a w) (h1 : hi ≤ B ∨ B < lo) (h2 : hi ≤ S ∨ S < lo) (h3 : hi ≤ a.heap.size) : SameIn lo hi a w :=
  fun k k1 k2 => h.block k (by omega) (by omega) (by omega)

/-- the cells of a setting -/
def stF (lv sv : Value) (M : Nat → Int) (i : Nat) : Value := if i = 0 then lv else if i = 1 then sv else .int .u8 (mkB (M (i - 2)))
/-- a setting in memory: its block, its sides' block, the labels in older memory -/
structure St (B S n hi : Nat) (Z : Nat → Int) (lv sv : Value) (sd M : Nat → Int) (w : World) : Prop where
  list : RdT 0 hi w lv n Z
  hiB : hi ≤ B
  hiS : hi ≤ S
  ne : B ≠ S
  sides : OwI S (S + 1) w sv n sd
  blk : w.rowIs B 64 102 (stF lv sv M)
theorem St.same {B S n hi : Nat} {Z : Nat → Int} {lv sv : Value} {sd M : Nat → Int} {w w' : World} (h : St B S n hi Z lv sv sd M w) (h1 : SameIn 0 hi w w') (h2 : w'.heap[S]? = w.heap[S]?) (h3 : w'.heap[B]? = w.heap[B]?) : St B S n hi Z lv sv sd M w' :=
  ⟨h.list.same h1, h.hiB, h.hiS, h.ne, h.sides.same (fun k k1 k2 => (show k = S by omega) ▸ h2), h.blk.of_block h3⟩
theorem St.drew {B S n hi : Nat} {Z : Nat → Int} {lv sv : Value} {sd M : Nat → Int} {w : World} (h : St B S n hi Z lv sv sd M w) : St B S n hi Z lv sv sd M w.drew := h.same (fun _ _ _ => rfl) rfl rfl
theorem St.lt {B S n hi : Nat} {Z : Nat → Int} {lv sv : Value} {sd M : Nat → Int} {w : World} (h : St B S n hi Z lv sv sd M w) : B < w.heap.size := h.blk.lt
theorem St.below {B S n hi : Nat} {Z : Nat → Int} {lv sv : Value} {sd M : Nat → Int} {w w' : World} (h : St B S n hi Z lv sv sd M w) (hb : Below w.heap.size w w') : St B S n hi Z lv sv sd M w' := by
  have hlt := h.lt
  refine ⟨h.list.same (SameIn.below hb (by have := h.hiB; omega)), h.hiB, h.hiS, h.ne, ?_, h.blk.of_block (hb.block _ hlt)⟩
  rcases h.sides with h' | ⟨b, N, cap, F, h0, h1, h2, h3, h4⟩
  · exact Or.inl h'
  · exact Or.inr ⟨b, N, cap, F, h0, h1, h2, h3.of_block (hb.block _ h3.lt), h4⟩
theorem St.congr {B S n hi : Nat} {Z : Nat → Int} {lv sv : Value} {sd M M' sd' : Nat → Int} {w : World} (h : St B S n hi Z lv sv sd M w) (e : ∀ j, j < 100 → M j = M' j) (e2 : ∀ i, i < n → sd i = sd' i) : St B S n hi Z lv sv sd' M' w :=
  ⟨h.list, h.hiB, h.hiS, h.ne, by
    rcases h.sides with h' | ⟨b, N, cap, F, h0, h1, h2, h3, h4, h5, h6, h7, h8⟩
    · exact Or.inl h'
    · exact Or.inr ⟨b, N, cap, F, h0, h1, h2, h3, h4, h5, h6, fun i hi => by rw [← e2 i hi]; exact h7 i hi, fun i hi => by rw [← e2 i hi]; exact h8 i hi⟩, h.blk.congr (fun i hi => by
      unfold stF
      split
      · rfl
      · split
        · rfl
        · rw [e (i - 2) (by omega)])⟩
theorem St.mark_cell {B S n hi : Nat} {Z : Nat → Int} {lv sv : Value} {sd M : Nat → Int} {w : World} (h : St B S n hi Z lv sv sd M w) {j : Nat} (hj : j < 100) : w.cell? ⟨B, 2 + j, none⟩ = some (.int .u8 (mkB (M j))) := by
  have := h.blk.cell (i := 2 + j) (by omega)
  rw [this]
  unfold stF
  rw [if_neg (by omega), if_neg (by omega), show 2 + j - 2 = j by omega]
theorem St.list_cell {B S n hi : Nat} {Z : Nat → Int} {lv sv : Value} {sd M : Nat → Int} {w : World} (h : St B S n hi Z lv sv sd M w) : w.cell? ⟨B, 0, none⟩ = some lv := h.blk.cell (i := 0) (by omega)
theorem St.sides_cell {B S n hi : Nat} {Z : Nat → Int} {lv sv : Value} {sd M : Nat → Int} {w : World} (h : St B S n hi Z lv sv sd M w) : w.cell? ⟨B, 1, none⟩ = some sv := h.blk.cell (i := 1) (by omega)
/-- a mark set -/
theorem St.mark {B S n hi : Nat} {Z : Nat → Int} {lv sv : Value} {sd M M' : Nat → Int} {w : World} (h : St B S n hi Z lv sv sd M w) {j : Nat} (hj : j < 100) (m : Int) (e : ∀ i, i < 100 → M' i = if i = j then m else M i) : St B S n hi Z lv sv sd M' (w.setCell ⟨B, 2 + j, none⟩ (.int .u8 (mkB m))) := by
  refine ⟨h.list.same (fun k _ k2 => Below.heap_setCell _ _ _ _ (by have := h.hiB; show k ≠ B; omega)), h.hiB, h.hiS, h.ne, h.sides.same (fun k k1 k2 => Below.heap_setCell _ _ _ _ (by have := h.ne; show k ≠ B; omega)), ?_⟩
  refine (h.blk.set (2 + j) _).congr (fun i hi => ?_)
  unfold stF
  by_cases e1 : i = 2 + j
  · rw [if_pos e1, if_neg (by omega), if_neg (by omega), e (i - 2) (by omega), if_pos (by omega)]
  · rw [if_neg e1]
    by_cases e2 : i = 0
    · rw [if_pos e2, if_pos e2]
    · rw [if_neg e2, if_neg e2]
      by_cases e3 : i = 1
      · rw [if_pos e3, if_pos e3]
      · rw [if_neg e3, if_neg e3, e (i - 2) (by omega), if_neg (by omega)]
/-- a side set -/
theorem St.side {B S n hi : Nat} {Z : Nat → Int} {lv sv : Value} {sd M : Nat → Int} {w : World} (h : St B S n hi Z lv sv sd M w) {k : Nat} (hk : k < n) (s : Int) (hs : -9223372036854775808 ≤ s ∧ s ≤ 9223372036854775807) : St B S n hi Z lv sv (upS sd k s) M (w.setCell ⟨S, k, none⟩ (.int .i64 s)) := by
  refine ⟨h.list.same (fun k _ k2 => Below.heap_setCell _ _ _ _ (by have := h.hiS; show k ≠ S; omega)), h.hiB, h.hiS, h.ne, ?_, h.blk.of_block (Below.heap_setCell _ _ _ _ h.ne)⟩
  rcases h.sides with ⟨_, h'⟩ | ⟨b, N, cap, F, h0, h1, h2, h3, h4, h5, h6, h7, h8⟩
  · omega
  · obtain rfl : b = S := by omega
    refine Or.inr ⟨b, N, cap, _, h0, h1, h2, h3.set k (.int .i64 s), h4, h5, h6, fun i hi => ?_, fun i hi => ?_⟩
    · show (if i = k then _ else _) = _
      unfold upS
      split
      · rfl
      · exact h7 i hi
    · unfold upS
      split
      · exact hs
      · exact h8 i hi
theorem St.side_open {B S n hi : Nat} {Z : Nat → Int} {lv sv : Value} {sd M : Nat → Int} {w : World} (h : St B S n hi Z lv sv sd M w) (h0 : 0 < n) : ∃ cap, sv = .slice (some ⟨S, 0, none⟩) n cap ∧ n ≤ cap ∧ (∀ i, i < n → w.cell? ⟨S, i, none⟩ = some (.int .i64 (sd i))) ∧ ∀ i, w.frozen? ⟨S, i, none⟩ = false := by
  rcases h.sides with ⟨_, h'⟩ | ⟨b, N, cap, F, h0, h1, h2, h3, h4, h5, h6, h7, h8⟩
  · omega
  · obtain rfl : b = S := by omega
    exact ⟨cap, h0, h5, fun i hi => by rw [h3.cell (by omega), h7 i hi], fun i => h3.frozen i⟩

/-- places that are free -/
def FrOk (M : Nat → Int) (q a : Nat) : Prop := ∀ i, i < a → M (q + i) = 0
def FrPost (M : Nat → Int) (q a : Nat) (w : World) (e : Ending) (w' : World) : Prop := (FrOk M q a → e = .returned (.bool true)) ∧ (¬ FrOk M q a → e = .returned (.bool false)) ∧ w = w'
set_option maxRecDepth 20000 in
set_option maxHeartbeats 8000000 in
theorem free_any (B S n hi : Nat) (Z : Nat → Int) (lv sv : Value) (sd M : Nat → Int) (w : World) (hst : St B S n hi Z lv sv sd M w) (hM : MpOk M) (pv : Value) (lo' hi' a q : Nat) (hp : RdI lo' hi' w pv a (fun i => (q : Int) + i)) (ha : q + a ≤ 100) :
    Calls Try.prog 83 #[.pointer (some ⟨B, 0, none⟩), pv] w (FrPost M q a w) := by
  obtain ⟨ao, cap, b, off, rfl, h2, h3, h4, h5, h6⟩ := hp
  have H6 := Lib.hid h6
  have HS := Lib.hid hst
  have HM := Lib.hid hM
  clear h6 h4 hst
  go_enter Try.func83, Try.ntmps83
  go_wp2
  go_loop [9] (fun c => ∃ i : Nat, i ≤ a ∧ c = .int .i64 i ∧ ∀ j, j < i → M (q + j) = 0) (fun c => a - (intOf c).toNat)
  case atStart => exact ⟨0, Nat.zero_le _, rfl, fun j hj => by omega⟩
  case round =>
    obtain ⟨i, hle, rfl, hd⟩ := hrel
    have HD := Lib.hid hd
    clear hd
    by_cases hlt : i < a
    · obtain ⟨rfl, _, _⟩ := h5 (by omega)
      have hlt' : (i : Int) < a := by omega
      have c1 := H6.out i hlt
      have c2 := HS.out.mark_cell (j := q + i) (by omega)
      have q0 : (0 : Int) ≤ (q : Int) + i := by omega
      have q1 : (q : Int) + i < 100 := by omega
      by_cases hm : M (q + i) = 0
      · rw [hm] at c2
        have e46 : mkB 0 = 46 := rfl
        rw [e46] at c2
        clear h5
        go_wp2
        go_round
        case rel => exact ⟨i + 1, by omega, by go_num, fun j hj => by
          rcases Nat.lt_or_ge j i with h | h
          · exact HD.out j h
          · obtain rfl : j = i := by omega
            exact hm⟩
        case measure => simp [intOf]; omega
      · have HN := Lib.hid (show ¬ FrOk M q a from fun h => hm (h i hlt))
        have hne : (mkB (M (q + i)) != 46) = true := by rw [bne_iff_ne]; intro h; exact hm ((mkB_free (HM.out _)).1 h)
        obtain ⟨y, ey⟩ : ∃ y, mkB (M (q + i)) = y := ⟨_, rfl⟩
        rw [ey] at c2 hne
        clear h5 ey hm
        go_wp2
        go_ret
        exact ⟨fun h => absurd h HN.out, fun _ => rfl, rfl⟩
    · obtain rfl : a = i := by omega
      clear h5
      go_wp2
      go_ret
      exact ⟨fun _ => rfl, fun h => absurd (show FrOk M q a from HD.out) h, rfl⟩

/-- the map with the places from q on marked -/
def mkM (M : Nat → Int) (q a : Nat) (m : Int) (j : Nat) : Int := if q ≤ j ∧ j < q + a then m else M j
set_option maxRecDepth 20000 in
set_option maxHeartbeats 8000000 in
theorem mark_any (B S n hi : Nat) (Z : Nat → Int) (lv sv : Value) (sd M : Nat → Int) (w : World) (hst : St B S n hi Z lv sv sd M w) (m mb : Int) (hmb : mkB m = mb) (pv : Value) (lo' hi' a q : Nat) (hp : RdI lo' hi' w pv a (fun i => (q : Int) + i)) (hB : hi' ≤ B ∨ B < lo') (ha : q + a ≤ 100) :
    Calls Try.prog 84 #[.pointer (some ⟨B, 0, none⟩), pv, .int .u8 mb] w (fun e w' => e = .returned (.tuple #[]) ∧ St B S n hi Z lv sv sd (mkM M q a m) w' ∧ Oth B S w w' ∧ w'.heap.size = w.heap.size) := by
  obtain ⟨ao, cap, b, off, rfl, h2, h3, h4, h5, h6⟩ := hp
  have H6 := Lib.hid h6
  have HS := Lib.hid hst
  clear h6 h4 hst
  go_enter Try.func84, Try.ntmps84
  go_wp2
  go_loopw [10] (fun c wr => ∃ i : Nat, i ≤ a ∧ c = .int .i64 i ∧ St B S n hi Z lv sv sd (mkM M q i m) wr ∧ Chg B (B + 1) w wr ∧ wr.heap.size = w.heap.size) (fun c _ => a - (intOf c).toNat)
  case atStart => exact ⟨0, Nat.zero_le _, rfl, HS.out.congr (fun j _ => by unfold mkM; rw [if_neg (by omega)]) (fun _ _ => rfl), Chg.refl _ _ _, rfl⟩
  case round =>
    obtain ⟨i, hle, rfl, hs, hch, hsz⟩ := hrel
    have HS1 := Lib.hid hs
    have HCH := Lib.hid hch
    have HSZ := Lib.hid hsz
    clear hsz
    by_cases hlt : i < a
    · obtain ⟨rfl, hl1, hl2⟩ := h5 (by omega)
      have hlt' : (i : Int) < a := by omega
      have c1 : wr.cell? ⟨b, off + i, none⟩ = _ := (World.cell?_of_block (a := ⟨b, off + i, none⟩) (hch.block b (World.block_lt_of_cell? _ _ (H6.out i hlt)) (by omega))).trans (H6.out i hlt)
      have c2 := hs.mark_cell (j := q + i) (by omega)
      have c3 := hs.blk.frozen (2 + (q + i))
      have q0 : (0 : Int) ≤ (q : Int) + i := by omega
      have q1 : (q : Int) + i < 100 := by omega
      have HN := Lib.hid (hs.mark (M' := mkM M q (i + 1) m) (j := q + i) (by omega) m (fun j hj => by
        unfold mkM
        by_cases e : j = q + i
        · rw [if_pos e, if_pos (by omega)]
        · rw [if_neg e]
          by_cases e2 : q ≤ j ∧ j < q + i
          · rw [if_pos e2, if_pos (by omega)]
          · rw [if_neg e2, if_neg (by omega)]))
      rw [hmb] at HN
      have HC2 := Lib.hid (hch.setCell (p := ⟨B, 2 + (q + i), none⟩) (Nat.le_refl _) (Nat.lt_succ_self _) (.int .u8 mb))
      have HZ2 := Lib.hid ((setCell_size wr ⟨B, 2 + (q + i), none⟩ (.int .u8 mb)).trans HSZ.out)
      clear h5 hs hch
      go_wp2
      go_roundw
      case rel => exact ⟨i + 1, by omega, by go_num, HN.out, HC2.out, HZ2.out⟩
      case measure => simp [intOf]; omega
    · obtain rfl : a = i := by omega
      clear h5 hs hch
      go_wp2
      first | go_end0 | refine bodyPost_ret (results_none rfl _ _ _) rfl ?_
      exact ⟨rfl, HS1.out, ⟨HCH.out.os, HCH.out.tape, HCH.out.output, HCH.out.size, fun k hk h1 h2 => HCH.out.block k hk (by omega)⟩, HSZ.out⟩

end Go.Proofs.Ythelaffjpmcdbaa
