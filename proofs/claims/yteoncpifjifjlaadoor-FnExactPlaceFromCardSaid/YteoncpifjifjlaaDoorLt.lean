/- Full names of places: of the model and of the program; PlaceName; its exact law. -/
import Derived.Test.YteoncpifjifjlaaDoorSo
import Derived.RegionTactic
namespace Go.Proofs.YteoncpifjifjlaaDoor
open Go.RowKit
set_option linter.unusedVariables false

theorem Tryd.infoU8 : (Tryd.prog.info? 5).map (fun i => (i.zero, i.size, i.bytes)) = some (some (.int .u8 0), 1, 1) := by kernel_rfl

/-- the letter of a quarter: 0 to 3 -/
def ltN (e s : Nat) : Nat := 2 * s + e
/-- the letters of a place -/
def ltA (X Y : Nat) : Nat := ltN (X / 2 % 2) (Y / 2 % 2)
def ltB (X Y : Nat) : Nat := ltN (X % 2) (Y % 2)
theorem ltA_lt (X Y : Nat) : ltA X Y < 4 := by unfold ltA ltN; omega
theorem ltB_lt (X Y : Nat) : ltB X Y < 4 := by unfold ltB ltN; omega
/-- a letter as a byte -/
def ltU (k : Nat) : UInt8 := u8 (97 + k)
theorem ltU_val {k : Nat} (h : k < 4) : (ltU k).toNat = 97 + k := by unfold ltU; exact u8_val (by omega)
/-- the full name of a place -/
def flL (X Y : Nat) : List UInt8 := nmL (X / 4) (Y / 4) ++ [ltU (ltA X Y), ltU (ltB X Y)]
def flS (X Y : Nat) : ByteArray := ⟨(flL X Y).toArray⟩

theorem own_two {w : World} {base : Nat} {t : TypeId} {v x y : Value} (h : w.ownsRow base t 1 v 2 [x, y]) :
    ∃ g cap, v = .slice (some ⟨g, 0, none⟩) 2 cap ∧ w.cell? ⟨g, 0, none⟩ = some x ∧ w.cell? ⟨g, 1, none⟩ = some y := by
  rcases h.2 with ⟨_, h'⟩ | ⟨g, c, cur, hv, _, hb, hle, _, hs, ht⟩
  · omega
  · refine ⟨g, c, hv, ?_, ?_⟩
    · have e : cur.toList[0]? = some x := by
        have := congrArg (·[0]?) ht
        simpa [List.getElem?_take] using this
      simp only [World.cell?, hb]
      simpa using e
    · have e : cur.toList[1]? = some y := by
        have := congrArg (·[1]?) ht
        simpa [List.getElem?_take] using this
      simp only [World.cell?, hb]
      simpa using e

theorem conv_two (x y : Int) (a b : UInt8) (ha : (a.toNat : Int) = x) (hb : (b.toNat : Int) = y) (W : World) (B c : Nat) (h0 : W.cell? ⟨B, 0, none⟩ = some (.int .u8 x)) (h1 : W.cell? ⟨B, 1, none⟩ = some (.int .u8 y)) :
    (convert 33 9 (.slice (some ⟨B, 0, none⟩) 2 c)).run Tryd.prog W = .ok (.string ⟨#[a, b]⟩) W :=
  run_convert_bytes_back (P := Tryd.prog) W 33 9 5 ⟨B, 0, none⟩ c [a, b] Tryd.underlying33 Tryd.underlying5 Tryd.underlying9 (fun j hj => by
    rcases (by simp at hj; omega : j = 0 ∨ j = 1) with rfl | rfl
    · rw [List.getElem_cons_zero, ha]; exact h0
    · rw [List.getElem_cons_succ, List.getElem_cons_zero, hb]; exact h1)

/-- the letters so far -/
def ltV (X Y k : Nat) : List Value := [.int .u8 (97 + (ltA X Y : Int)), .int .u8 (97 + (ltB X Y : Int))].take k
def hfV (k : Nat) : Int := if k = 0 then 2 else if k = 1 then 1 else 0

set_option maxHeartbeats 4000000 in
theorem letters_any (X Y : Nat) (w : World) (hX : X < 104) (hY : Y < 104) : Calls Tryd.prog 98 #[.agg #[.int .i64 X, .int .i64 Y]] w (StrPost ⟨#[ltU (ltA X Y), ltU (ltB X Y)]⟩ w) := by
  obtain ⟨i8, hi8, hz0, hz1, hz2⟩ := info_parts Tryd.infoU8
  have HB0 := Lib.hid (show Below w.heap.size w (w.alloc (.cells #[.int .i64 X, .int .i64 Y] 81)) from (Below.refl _ _).alloc (Nat.le_refl _) _)
  have HX0 := Lib.hid (heap_alloc_new w (.cells #[.int .i64 X, .int .i64 Y] 81))
  go_enter Tryd.func98, Tryd.ntmps98
  go_wp2
  go_loopw [3, 4] (fun v i wr => ∃ k : Nat, k ≤ 2 ∧ i = .int .i64 (hfV k) ∧ wr.ownsRow (w.heap.size + 1) 5 1 v k (ltV X Y k) ∧ Below w.heap.size w wr ∧ wr.heap[w.heap.size]? = some (.cells #[.int .i64 X, .int .i64 Y] 81 (0, 0))) (fun v i _ => (intOf i).toNat)
  case atStart => exact ⟨0, by omega, rfl, ⟨rfl, .inl ⟨rfl, rfl⟩⟩, HB0.out, HX0.out⟩
  case round =>
    obtain ⟨k, hk, rfl, hown, hb, hx⟩ := hrel
    have HB := Lib.hid hb
    have HX := Lib.hid hx
    have hlt := lt_of_block hx
    clear hb hx
    rcases (by omega : k = 0 ∨ k = 1 ∨ k = 2) with rfl | rfl | rfl
    · rw [show hfV 0 = 2 from rfl]
      obtain ⟨E, hE⟩ : ∃ E, X / 2 % 2 = E := ⟨_, rfl⟩
      obtain ⟨S, hS⟩ : ∃ S, Y / 2 % 2 = S := ⟨_, rfl⟩
      have q1 : (X : Int).tdiv 2 = ((X / 2 : Nat) : Int) := by rw [Int.tdiv_eq_ediv_of_nonneg (by omega)]; omega
      have q2 : (Y : Int).tdiv 2 = ((Y / 2 : Nat) : Int) := by rw [Int.tdiv_eq_ediv_of_nonneg (by omega)]; omega
      have q3 : IntKind.i64.wrap ((X / 2 : Nat) : Int) = ((X / 2 : Nat) : Int) := IntWalk.i64_in _ (by omega)
      have q4' : IntKind.i64.wrap ((Y / 2 : Nat) : Int) = ((Y / 2 : Nat) : Int) := IntWalk.i64_in _ (by omega)
      have q5 : (((X / 2 : Nat)) : Int).tmod 2 = (E : Int) := by rw [Int.tmod_eq_emod_of_nonneg (by omega)]; omega
      have q6 : (((Y / 2 : Nat)) : Int).tmod 2 = (S : Int) := by rw [Int.tmod_eq_emod_of_nonneg (by omega)]; omega
      have HV := Lib.hid (show (97 + 2 * (S : Int) + E : Int) = 97 + (ltA X Y : Int) by unfold ltA ltN; omega)
      have hE2 : E < 2 := by omega
      have hS2 : S < 2 := by omega
      have q7 : IntKind.i64.wrap (E : Int) = E := IntWalk.i64_in _ (by omega)
      have q8 : IntKind.i64.wrap (S : Int) = S := IntWalk.i64_in _ (by omega)
      have q9 : IntKind.u8.wrap (97 + 2 * (S : Int) + E) = 97 + 2 * (S : Int) + E := IntWalk.u8_in _ (by omega)
      clear hE hS
      have e1 : ltV X Y 0 ++ [.int .u8 (97 + 2 * (S : Int) + E)] = ltV X Y 1 := by rw [HV.out]; rfl
      have HE1 := Lib.hid e1
      clear e1
      generalize X / 2 = Xh at *
      generalize Y / 2 = Yh at *
      obtain ⟨c0, c1, _, _⟩ := cellsP HX.out
      go_wp2_with fail
      go_quiet (fail)
      have hb9 := below_drewN HB.out nq
      have hx9 : (wr.drewN nq).heap[w.heap.size]? = some (.cells #[.int .i64 X, .int .i64 Y] 81 (0, 0)) := HX.out
      have hown9 : (wr.drewN nq).ownsRow (w.heap.size + 1) 5 1 u3 0 (ltV X Y 0) := hown
      have hlt9 : w.heap.size < (wr.drewN nq).heap.size := hlt
      generalize wr.drewN nq = w9 at *
      clear hown
      go_wp2_with (first | (at_builtin; refine wpList_append_own _ rfl _ _ 33 rfl (w.heap.size + 1) 5 i8 (.int .u8 0) 1 1 Tryd.underlying33 hi8 hz0 hz1 hz2 rfl (by decide) _ 0 (ltV X Y 0) rfl (hown9.alloc _) ⟨w9.heap.size, 0, none⟩ 1 1 [.int .u8 (97 + 2 * (S : Int) + E)] rfl rfl (World.news_of_block (cs := #[.int .u8 (97 + 2 * (S : Int) + E)]) (t := 5) (fr := (0, 0)) (heap_alloc_new w9 _)) (by simp [Value.oneCell']) (by unfold maxLen; omega) (by omega) (by simp; omega) ?_; intro v' w4 hown4 hg4 _))
      have HB4 := Lib.hid ((hb9.alloc hb9.size (.cells #[.int .u8 (97 + 2 * (S : Int) + E)] 5)).grown hg4 (by simp; omega) (fun k hk => by have := (hown9.lt k hk).1; omega))
      have HB5 := Lib.hid (((Below.refl (w.heap.size + 1) w9).alloc (by omega) (.cells #[.int .u8 (97 + 2 * (S : Int) + E)] 5)).grown hg4 (by simp; omega) (fun k hk => (hown9.lt k hk).1))
      have HX4 := Lib.hid ((HB5.out.block w.heap.size (by omega)).trans hx9)
      rw [HE1.out] at hown4
      have HO4 := Lib.hid hown4
      clear hown4 hg4 hown9 hb9 hx9
      go_wp2
      go_roundw
      case rel => exact ⟨0 + 1, by omega, by go_num, HO4.out, HB4.out, HX4.out⟩
      case measure => simp [intOf]
    · rw [show hfV 1 = 1 from rfl]
      obtain ⟨E, hE⟩ : ∃ E, X % 2 = E := ⟨_, rfl⟩
      obtain ⟨S, hS⟩ : ∃ S, Y % 2 = S := ⟨_, rfl⟩
      have q3 : IntKind.i64.wrap (X : Int) = (X : Int) := IntWalk.i64_in _ (by omega)
      have q4' : IntKind.i64.wrap (Y : Int) = (Y : Int) := IntWalk.i64_in _ (by omega)
      have q5 : (X : Int).tmod 2 = (E : Int) := by rw [Int.tmod_eq_emod_of_nonneg (by omega)]; omega
      have q6 : (Y : Int).tmod 2 = (S : Int) := by rw [Int.tmod_eq_emod_of_nonneg (by omega)]; omega
      have HV := Lib.hid (show (97 + 2 * (S : Int) + E : Int) = 97 + (ltB X Y : Int) by unfold ltB ltN; omega)
      have hE2 : E < 2 := by omega
      have hS2 : S < 2 := by omega
      have q7 : IntKind.i64.wrap (E : Int) = E := IntWalk.i64_in _ (by omega)
      have q8 : IntKind.i64.wrap (S : Int) = S := IntWalk.i64_in _ (by omega)
      have q9 : IntKind.u8.wrap (97 + 2 * (S : Int) + E) = 97 + 2 * (S : Int) + E := IntWalk.u8_in _ (by omega)
      clear hE hS
      have e1 : ltV X Y 1 ++ [.int .u8 (97 + 2 * (S : Int) + E)] = ltV X Y 2 := by rw [HV.out]; rfl
      have HE1 := Lib.hid e1
      clear e1
      obtain ⟨c0, c1, _, _⟩ := cellsP HX.out
      go_wp2_with fail
      go_quiet (fail)
      have hb9 := below_drewN HB.out nq
      have hx9 : (wr.drewN nq).heap[w.heap.size]? = some (.cells #[.int .i64 X, .int .i64 Y] 81 (0, 0)) := HX.out
      have hown9 : (wr.drewN nq).ownsRow (w.heap.size + 1) 5 1 u3 1 (ltV X Y 1) := hown
      have hlt9 : w.heap.size < (wr.drewN nq).heap.size := hlt
      generalize wr.drewN nq = w9 at *
      clear hown
      go_wp2_with (first | (at_builtin; refine wpList_append_own _ rfl _ _ 33 rfl (w.heap.size + 1) 5 i8 (.int .u8 0) 1 1 Tryd.underlying33 hi8 hz0 hz1 hz2 rfl (by decide) _ 1 (ltV X Y 1) rfl (hown9.alloc _) ⟨w9.heap.size, 0, none⟩ 1 1 [.int .u8 (97 + 2 * (S : Int) + E)] rfl rfl (World.news_of_block (cs := #[.int .u8 (97 + 2 * (S : Int) + E)]) (t := 5) (fr := (0, 0)) (heap_alloc_new w9 _)) (by simp [Value.oneCell']) (by unfold maxLen; omega) (by omega) (by simp; omega) ?_; intro v' w4 hown4 hg4 _))
      have HB4 := Lib.hid ((hb9.alloc hb9.size (.cells #[.int .u8 (97 + 2 * (S : Int) + E)] 5)).grown hg4 (by simp; omega) (fun k hk => by have := (hown9.lt k hk).1; omega))
      have HB5 := Lib.hid (((Below.refl (w.heap.size + 1) w9).alloc (by omega) (.cells #[.int .u8 (97 + 2 * (S : Int) + E)] 5)).grown hg4 (by simp; omega) (fun k hk => (hown9.lt k hk).1))
      have HX4 := Lib.hid ((HB5.out.block w.heap.size (by omega)).trans hx9)
      rw [HE1.out] at hown4
      have HO4 := Lib.hid hown4
      clear hown4 hg4 hown9 hb9 hx9
      go_wp2
      go_roundw
      case rel => exact ⟨1 + 1, by omega, by go_num, HO4.out, HB4.out, HX4.out⟩
      case measure => simp [intOf]
    · rw [show hfV 2 = 0 from rfl]
      obtain ⟨g, cap, rfl, c0, c1⟩ := own_two hown
      have cv := conv_two _ _ (ltU (ltA X Y)) (ltU (ltB X Y)) (by rw [ltU_val (ltA_lt X Y)]; rfl) (by rw [ltU_val (ltB_lt X Y)]; rfl) wr g cap c0 c1
      clear hown
      go_wp2
      go_ret
      exact ⟨rfl, HB.out⟩

end Go.Proofs.YteoncpifjifjlaaDoor
