/- Names of sheets: what is reckoned; the model's numerals and names. -/
import Derived.Test.YteoncpifjifjlaaTextC
import Derived.RegionTactic
namespace Go.Proofs.Yteoncpifjifjlaa
open Go.RowKit
set_option linter.unusedVariables false

/-- a byte by its number -/
def u8 (n : Nat) : UInt8 := UInt8.ofNat n
theorem u8_val {n : Nat} (h : n < 256) : (u8 n).toNat = n := by unfold u8; rw [UInt8.toNat_ofNat']; omega
/-- the numeral of a number below 100 -/
def decL (n : Nat) : List UInt8 := if n < 10 then [u8 (48 + n)] else [u8 (48 + n / 10), u8 (48 + n % 10)]
/-- the name of a sheet by its column and its row, from 0 on -/
def nmL (c r : Nat) : List UInt8 := u8 (65 + r) :: decL (c + 1)
theorem decL_len (n : Nat) : 1 ≤ (decL n).length ∧ (decL n).length ≤ 2 := by unfold decL; split <;> simp
theorem nmL_len (c r : Nat) : 2 ≤ (nmL c r).length ∧ (nmL c r).length ≤ 3 := by have := decL_len (c + 1); simp [nmL]; omega

theorem u8_inj {a b : Nat} (ha : a < 256) (hb : b < 256) (h : u8 a = u8 b) : a = b := by
  have := congrArg UInt8.toNat h
  rw [u8_val ha, u8_val hb] at this
  exact this
theorem decL_inj {a b : Nat} (ha : a < 100) (hb : b < 100) (h : decL a = decL b) : a = b := by
  unfold decL at h
  by_cases h1 : a < 10 <;> by_cases h2 : b < 10
  · rw [if_pos h1, if_pos h2] at h
    have := u8_inj (by omega) (by omega) (List.cons.inj h).1
    omega
  · rw [if_pos h1, if_neg h2] at h; simp at h
  · rw [if_neg h1, if_pos h2] at h; simp at h
  · rw [if_neg h1, if_neg h2] at h
    obtain ⟨e1, e2⟩ := List.cons.inj h
    have x1 := u8_inj (by omega) (by omega) e1
    have x2 := u8_inj (by omega) (by omega) (List.cons.inj e2).1
    omega
theorem nmL_inj {c r c' r' : Nat} (hc : c < 26) (hr : r < 26) (hc' : c' < 26) (hr' : r' < 26) (h : nmL c r = nmL c' r') : c = c' ∧ r = r' := by
  obtain ⟨h1, h2⟩ := List.cons.inj h
  have a1 := u8_inj (by omega) (by omega) h1
  have a2 := decL_inj (by omega) (by omega) h2
  omega

/-- one byte as a string, wherever it was laid -/
theorem conv_one (x : Int) (b : UInt8) (hx : (b.toNat : Int) = x) (W : World) (B : Nat) (hB : W.heap[B]? = some (.cells #[.int .u8 x] 5 (0, 0))) :
    (convert 36 9 (.slice (some ⟨B, 0, none⟩) 1 1)).run Try.prog W = .ok (.string ⟨#[b]⟩) W :=
  run_convert_bytes_back (P := Try.prog) W 36 9 5 ⟨B, 0, none⟩ 1 [b] Try.underlying36 Try.underlying5 Try.underlying9 (fun j hj => by
    have hj0 : j = 0 := by simp at hj; exact hj
    subst hj0
    rw [List.getElem_cons_zero, hx]
    exact cell_of_one hB)

set_option maxHeartbeats 2000000 in
theorem l6Dec_two (n : Nat) (w : World) (h0 : 10 ≤ n) (h9 : n < 100) :
    Calls Try.prog 15 #[.int .i64 n] w (StrPost ⟨(decL n).toArray⟩ w) := by
  have h1 : ¬ ((n : Int) < -9223372036854775807) := by omega
  have h2 : ¬ ((n : Int) < 0) := by omega
  have h3 : ¬ ((n : Int) < 10) := by omega
  have hq : (n : Int).tdiv 10 = ((n / 10 : Nat) : Int) := by rw [Int.tdiv_eq_ediv_of_nonneg (by omega)]; omega
  have hr : (n : Int).tmod 10 = ((n % 10 : Nat) : Int) := by rw [Int.tmod_eq_emod_of_nonneg (by omega)]; omega
  have hw1 : IntKind.i64.wrap ((n / 10 : Nat) : Int) = ((n / 10 : Nat) : Int) := IntWalk.i64_in _ (by omega)
  have hw2 : IntKind.i64.wrap ((n % 10 : Nat) : Int) = ((n % 10 : Nat) : Int) := IntWalk.i64_in _ (by omega)
  have hw8 : IntKind.u8.wrap (48 + ((n % 10 : Nat) : Int)) = 48 + ((n % 10 : Nat) : Int) := IntWalk.u8_in _ (by omega)
  have hw3 : IntKind.i64.wrap (48 + ((n % 10 : Nat) : Int)) = 48 + ((n % 10 : Nat) : Int) := IntWalk.i64_in _ (by omega)
  have hx : (((u8 (48 + n % 10)).toNat : Nat) : Int) = 48 + ((n % 10 : Nat) : Int) := by rw [u8_val (by omega)]; omega
  have HD := Lib.hid (fun W : World => show Calls Try.prog 15 #[.int .i64 ((n / 10 : Nat) : Int)] W (StrPost ⟨#[u8 (48 + n / 10)]⟩ W) from l6Dec_digit ((n / 10 : Nat) : Int) W (by omega) (by omega))
  have hE : decL n = [u8 (48 + n / 10)] ++ [u8 (48 + n % 10)] := by unfold decL; rw [if_neg (by omega)]; rfl
  have HE := Lib.hid hE
  have HX := Lib.hid hx
  have hq9 : n / 10 < 10 := by omega
  have ht9 : n % 10 < 10 := by omega
  generalize n / 10 = q at *
  generalize n % 10 = t at *
  have ht9' : (t : Int) < 10 := by omega
  have ht0' : (0 : Int) ≤ t := by omega
  have cv : ∀ W : World, (convert 36 9 (.slice (some ⟨W.heap.size, 0, none⟩) 1 1)).run Try.prog (W.alloc (.cells #[.int .u8 (48 + (t : Int))] 5)) = .ok (.string ⟨#[u8 (48 + t)]⟩) (W.alloc (.cells #[.int .u8 (48 + (t : Int))] 5)) := fun W => conv_one _ _ hx _ _ (heap_alloc_new W _)
  have cvd : ∀ W : World, (convert 36 9 (.slice (some ⟨W.heap.size, 0, none⟩) 1 1)).run Try.prog (W.alloc (.cells #[.int .u8 (48 + (t : Int))] 5)).drew = .ok (.string ⟨#[u8 (48 + t)]⟩) (W.alloc (.cells #[.int .u8 (48 + (t : Int))] 5)).drew := fun W => conv_one _ _ hx _ _ (heap_alloc_new W _)
  have hadd : ∀ W : World, (Op.stringOp .add ⟨#[u8 (48 + q)]⟩ ⟨#[u8 (48 + t)]⟩).run Try.prog W = .ok (.string ⟨([u8 (48 + q)] ++ [u8 (48 + t)]).toArray⟩) W := fun W => run_string_add_lists (w := W) [_] [_] (by simp) (by simp)
  clear hx hE
  go_enter Try.func15, Try.ntmps15
  go_wp2_with fail
  go_region_with ((go_at_call 15; refine (HD.out _).mono ?_; rintro e w2 ⟨rfl, hb2⟩; (first | (have cv2 := conv_one (48 + (t : Int)) _ HX.out w2 w.heap.size ((hb2.block w.heap.size (by simp)).trans (heap_alloc_new w _))) | skip)))
  all_goals clear cv cvd hadd
  all_goals go_wp2
  all_goals go_ret
  all_goals (first | exact ⟨by rw [HE.out]; rfl, hb2.undrew.alloc hb2.undrew.size _⟩ | exact ⟨by rw [HE.out]; rfl, ((Below.refl w.heap.size w).alloc (Nat.le_refl _) _).trans ((hb2.undrew).mono (by simp))⟩ | exact ⟨by rw [HE.out]; rfl, ((Below.refl w.heap.size w).alloc (Nat.le_refl _) _).drew.trans (hb2.mono (by simp))⟩)

theorem l6Dec_any (n : Nat) (w : World) (h : n < 100) : Calls Try.prog 15 #[.int .i64 n] w (StrPost ⟨(decL n).toArray⟩ w) := by
  by_cases h9 : n < 10
  · have he : decL n = [u8 (48 + n)] := by unfold decL; rw [if_pos h9]
    rw [he]
    exact l6Dec_digit (n : Int) w (by omega) (by omega)
  · exact l6Dec_two n w (by omega) h

set_option maxHeartbeats 2000000 in
theorem l7Name_any (c r : Nat) (w : World) (hc : c < 26) (hr : r < 26) :
    Calls Try.prog 10 #[.int .i64 c, .int .i64 r] w (StrPost ⟨(nmL c r).toArray⟩ w) := by
  have hw8 : IntKind.u8.wrap (65 + (r : Int)) = 65 + (r : Int) := IntWalk.u8_in _ (by omega)
  have hw3 : IntKind.i64.wrap (65 + (r : Int)) = 65 + (r : Int) := IntWalk.i64_in _ (by omega)
  have hw4 : IntKind.i64.wrap ((c : Int) + 1) = ((c + 1 : Nat) : Int) := by rw [IntWalk.i64_in _ (by omega)]; rfl
  have hx : (((u8 (65 + r)).toNat : Nat) : Int) = 65 + (r : Int) := by rw [u8_val (by omega)]; omega
  have HD := Lib.hid (fun W : World => l6Dec_any (c + 1) W (by omega))
  have hdl := decL_len (c + 1)
  have hE : nmL c r = [u8 (65 + r)] ++ decL (c + 1) := rfl
  have HE := Lib.hid hE
  have HX := Lib.hid hx
  obtain ⟨n, hn⟩ : ∃ n, c + 1 = n := ⟨_, rfl⟩
  rw [hn] at HD hw4 HE hdl
  generalize hL : decL n = L at HD HE hdl
  have hadd : ∀ W : World, (Op.stringOp .add ⟨#[u8 (65 + r)]⟩ ⟨L.toArray⟩).run Try.prog W = .ok (.string ⟨([u8 (65 + r)] ++ L).toArray⟩) W := fun W => run_string_add_lists (w := W) [_] _ (by simp) (by omega)
  have cv : ∀ W : World, (convert 36 9 (.slice (some ⟨W.heap.size, 0, none⟩) 1 1)).run Try.prog (W.alloc (.cells #[.int .u8 (65 + (r : Int))] 5)) = .ok (.string ⟨#[u8 (65 + r)]⟩) (W.alloc (.cells #[.int .u8 (65 + (r : Int))] 5)) := fun W => conv_one _ _ hx _ _ (heap_alloc_new W _)
  have cvd : ∀ W : World, (convert 36 9 (.slice (some ⟨W.heap.size, 0, none⟩) 1 1)).run Try.prog (W.alloc (.cells #[.int .u8 (65 + (r : Int))] 5)).drew = .ok (.string ⟨#[u8 (65 + r)]⟩) (W.alloc (.cells #[.int .u8 (65 + (r : Int))] 5)).drew := fun W => conv_one _ _ hx _ _ (heap_alloc_new W _)
  clear hx hE hn hL
  go_enter Try.func10, Try.ntmps10
  go_wp2_with fail
  go_region_with ((go_at_call 15; refine (HD.out _).mono ?_; rintro e w2 ⟨rfl, hb2⟩; (first | (have cv2 := conv_one (65 + (r : Int)) _ HX.out w2 w.heap.size ((hb2.block w.heap.size (by simp)).trans (heap_alloc_new w _))) | skip)))
  all_goals clear cv cvd hadd
  all_goals go_wp2
  all_goals go_ret
  all_goals trace_state
  all_goals (first | exact ⟨by rw [HE.out]; rfl, hb2.undrew.alloc hb2.undrew.size _⟩ | exact ⟨by rw [HE.out]; rfl, ((Below.refl w.heap.size w).alloc (Nat.le_refl _) _).trans ((hb2.undrew).mono (by simp))⟩ | exact ⟨by rw [HE.out]; rfl, ((Below.refl w.heap.size w).alloc (Nat.le_refl _) _).drew.trans (hb2.mono (by simp))⟩)

end Go.Proofs.Yteoncpifjifjlaa
