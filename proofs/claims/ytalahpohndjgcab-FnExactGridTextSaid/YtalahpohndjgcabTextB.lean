/- The program's GridText; a digit of the model's. -/
import Derived.Test.YtalahpohndjgcabTextA
import Derived.Laws.IdiomStrings
namespace Go.Proofs.Ytalahpohndjgcab
open Go.RowKit
set_option linter.unusedVariables false

/-- the text of a grid -/
noncomputable def txtOf (g : G) : ByteArray := ⟨(if g.vB then txt (g.len 0) g.flat (g.n * g.len 0) else []).toArray⟩
theorem txtOf_yes {g : G} (h : g.Valid) : txtOf g = ⟨(txt (g.len 0) g.flat (g.n * g.len 0)).toArray⟩ := by simp only [txtOf, G.vB_yes h, if_true]
theorem txtOf_no {g : G} (h : ¬ g.Valid) : txtOf g = ⟨#[]⟩ := by simp only [txtOf, G.vB_no h]; rfl

def StrPost (s : ByteArray) (w : World) (e : Ending) (w' : World) : Prop := e = .returned (.string s) ∧ Below w.heap.size w w'

set_option maxHeartbeats 1000000 in
theorem implGridText_any (v : Value) (lo hi : Nat) (g : G) (w : World) (hv : RdM lo hi w v g) (hh : hi ≤ w.heap.size) :
    Calls Try.prog 43 #[v] w (StrPost (txtOf g) w) := by
  by_cases h : g.Valid
  case neg =>
    have HC := Lib.hid (reliefOf_no v lo hi g w hv hh h)
    have HE := Lib.hid (txtOf_no h)
    clear hv h
    go_enter Try.func43, Try.ntmps43
    go_wp2_with fail
    refine HC.out.mono ?_
    rintro e w1 ⟨rfl, hb1⟩
    have HB1 := Lib.hid (hb1.alloc hb1.size (.cells #[.int .i64 0, .int .i64 0, .slice none 0 0] 46))
    clear hb1
    go_wp2
    go_ret
    exact ⟨congrArg (fun s => Ending.returned (Value.string s)) HE.out.symm, HB1.out⟩
  case pos =>
    have HC := Lib.hid (reliefOf_yes v lo hi g w hv hh h)
    have HE := Lib.hid (txtOf_yes h)
    have HH := Lib.hid h
    clear hv h
    go_enter Try.func43, Try.ntmps43
    go_wp2_with fail
    refine HC.out.mono ?_
    intro e w1 hq
    obtain ⟨n, gg, cap, rfl, hrv, hb1⟩ := hq.rv
    have HB1 := Lib.hid (hb1.alloc hb1.size (.cells #[.int .i64 g.n, .int .i64 (g.len 0), .slice (some ⟨gg, 0, none⟩) n cap] 46))
    have hrv1 := hrv.keep ((Below.refl w1.heap.size w1).alloc (Nat.le_refl _) (.cells #[.int .i64 g.n, .int .i64 (g.len 0), .slice (some ⟨gg, 0, none⟩) n cap] 46)) (Nat.le_refl _)
    have HM := Lib.hid (text_any g.n (g.len 0) n gg cap g.flat _ hrv1 HH.out.1 HH.out.2.1 (rel_ok HH.out hrv.n_eq).2.2)
    have HE2 := Lib.hid (show (⟨(txt (g.len 0) g.flat n).toArray⟩ : ByteArray) = txtOf g from by rw [HE.out, hrv.n_eq])
    clear hq hrv hb1 hrv1
    go_wp2_with fail
    refine HM.out.mono ?_
    rintro e w2 ⟨rfl, hb2⟩
    have HB2 := Lib.hid (HB1.out.trans (hb2.mono HB1.out.size))
    clear hb2
    go_wp2
    go_ret
    exact ⟨congrArg (fun s => Ending.returned (Value.string s)) HE2.out, HB2.out⟩

set_option maxHeartbeats 1000000 in
theorem l6Dec_digit (d : Int) (w : World) (h0 : 0 ≤ d) (h9 : d < 10) :
    Calls Try.prog 67 #[.int .i64 d] w (StrPost ⟨#[UInt8.ofNat (48 + d.toNat)]⟩ w) := by
  have h1 : ¬ (d < -9223372036854775807) := by omega
  have h2 : ¬ (d < 0) := by omega
  have hx : (((UInt8.ofNat (48 + d.toNat)).toNat : Nat) : Int) = 48 + d := by rw [UInt8.toNat_ofNat']; omega
  have hcell : (w.alloc (.cells #[.int .u8 (48 + d)] 5)).cell? ⟨w.heap.size, 0, none⟩ = some (.int .u8 (48 + d)) := cell_of_one (heap_alloc_new w _)
  have hr : (convert 65 9 (.slice (some ⟨w.heap.size, 0, none⟩) 1 1)).run Try.prog (w.alloc (.cells #[.int .u8 (48 + d)] 5)) = .ok (.string ⟨#[UInt8.ofNat (48 + d.toNat)]⟩) (w.alloc (.cells #[.int .u8 (48 + d)] 5)) :=
    run_convert_bytes_back (P := Try.prog) (w.alloc (.cells #[.int .u8 (48 + d)] 5)) 65 9 5 ⟨w.heap.size, 0, none⟩ 1 [UInt8.ofNat (48 + d.toNat)] Try.underlying65 Try.underlying5 Try.underlying9 (fun j hj => by
      have hj0 : j = 0 := by simp at hj; exact hj
      subst hj0
      rw [List.getElem_cons_zero, hx]
      exact hcell)
  have HB := Lib.hid ((Below.refl w.heap.size w).alloc (Nat.le_refl _) (.cells #[.int .u8 (48 + d)] 5))
  clear hx hcell
  go_enter Try.func67, Try.ntmps67
  go_wp2
  go_ret
  exact ⟨rfl, HB.out⟩

end Go.Proofs.Ytalahpohndjgcab
