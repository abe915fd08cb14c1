/- A chain of corrections is short: the program's isShort. -/
import Derived.Test.YtidlloelinmnnaaEk
namespace Go.Proofs.Ytidlloelinmnnaa
open Go.RowKit Go.Shelf
set_option linter.unusedVariables false
set_option linter.unusedSimpArgs false

theorem me_short (d : Nat) (v : Value) (W : World) : (method (d + 1) 96 v "loop.example/reliefmaps/impl.isShort").run Try.prog W = .ok (158, v) W := by kernel_rfl
theorem me_shortE (d : Nat) (v : Value) (W : World) : (method (d + 1) 93 v "loop.example/reliefmaps/impl.isShort").run Try.prog W = .ok (155, v) W := by kernel_rfl
theorem cf_short (args : Array Value) (W : World) : (callFunc 158 args).run Try.prog W = .ok (.enter 158 args) W := by kernel_rfl
theorem cf_shortE (args : Array Value) (W : World) : (callFunc 155 args).run Try.prog W = .ok (.enter 155 args) W := by kernel_rfl
def shF : List Fx → Nat
  | [] => 155
  | _ :: _ => 158
theorem sh_rest (L : List Fx) : ∃ vt, ckV L = .iface vt (dnR L) ∧ (∀ d W, (method (d + 1) vt (dnR L) "loop.example/reliefmaps/impl.isShort").run Try.prog W = .ok (shF L, dnR L) W) ∧ ∀ args W, (callFunc (shF L) args).run Try.prog W = .ok (.enter (shF L) args) W := by
  cases L with
  | nil => exact ⟨_, rfl, fun d W => me_shortE d _ W, cf_shortE⟩
  | cons f l => exact ⟨_, rfl, fun d W => me_short d _ W, cf_short⟩

set_option maxRecDepth 20000 in
set_option maxHeartbeats 4000000 in
theorem isShort_any : ∀ (L : List Fx) (w : World), Calls Try.prog (shF L) #[dnR L] w (BlPost (shB L) w)
  | [], w => by
    have HE := Lib.hid (shB_yes (L := []) trivial)
    show Calls Try.prog 155 #[.agg #[]] w (BlPost (shB []) w)
    go_enter Try.func155, Try.ntmps155
    go_wp2
    go_ret
    exact ⟨by rw [HE.out]; rfl, (Below.refl _ _).alloc (Nat.le_refl _) _⟩
  | [f], w => by
    have HE := Lib.hid (shB_yes (L := [f]) trivial)
    have HT := ta_noF (.agg #[])
    show Calls Try.prog 158 #[.agg #[.int .i64 f.r, .int .i64 f.c, .int .i64 f.o, .int .i64 f.n, .iface 93 (.agg #[])]] w (BlPost (shB [f]) w)
    go_enter Try.func158, Try.ntmps158
    go_wp2
    go_ret
    exact ⟨by rw [HE.out]; rfl, (Below.refl _ _).alloc (Nat.le_refl _) _⟩
  | f :: g :: l, w => by
    have IH := Lib.hid (fun W : World => isShort_any (g :: l) W)
    obtain ⟨vt, vu, eV⟩ := ckV_iface l
    have eg : dnR (g :: l) = .agg #[.int .i64 g.r, .int .i64 g.c, .int .i64 g.o, .int .i64 g.n, .iface vt vu] := by rw [dnR, eV]
    have ef : dnR (f :: g :: l) = .agg #[.int .i64 f.r, .int .i64 f.c, .int .i64 f.o, .int .i64 f.n, .iface 96 (.agg #[.int .i64 g.r, .int .i64 g.c, .int .i64 g.o, .int .i64 g.n, .iface vt vu])] := by rw [dnR]; simp only [ckV, eV, dnR]
    rw [ef]
    rw [eg] at IH
    have HT := ta_yesF (.agg #[.int .i64 g.r, .int .i64 g.c, .int .i64 g.o, .int .i64 g.n, .iface vt vu])
    have HBC := Lib.hid (fun W : World => byCell_any f.r f.c f.o f.n g.r g.c g.o g.n W)
    obtain ⟨W2, hW2, hs2, k0, k1, kb⟩ := two_allocs2 w (.cells #[.int .i64 f.r, .int .i64 f.c, .int .i64 f.o, .int .i64 f.n, .iface 96 (.agg #[.int .i64 g.r, .int .i64 g.c, .int .i64 g.o, .int .i64 g.n, .iface vt vu])] 96) (.cells #[.int .i64 g.r, .int .i64 g.c, .int .i64 g.o, .int .i64 g.n, .iface vt vu] 96)
    have K1 := Lib.hid k1
    have KB := Lib.hid kb
    clear k0 k1 kb ef eg eV
    by_cases hl : Lx f g
    case neg =>
      have HE := Lib.hid (shB_no (L := f :: g :: l) (fun h => hl h.1))
      have hb : ¬ bcV f g < 0 := fun h => hl (bcV_neg.1 h)
      have hbd : decide (bcV f g < 0) = false := by simp only [decide_eq_false_iff_not]; exact hb
      change ¬ bcV ⟨f.r, f.c, f.o, f.n⟩ ⟨g.r, g.c, g.o, g.n⟩ < 0 at hb
      change decide (bcV ⟨f.r, f.c, f.o, f.n⟩ ⟨g.r, g.c, g.o, g.n⟩ < 0) = false at hbd
      clear hl
      show Calls Try.prog 158 _ w _
      go_enter Try.func158, Try.ntmps158
      go_wp2_with fail
      rw [← hW2]
      refine (HBC.out _).mono ?_
      rintro e w3 ⟨rfl, hb3⟩
      have HB3 := Lib.hid (KB.out.trans (hb3.mono (by omega)))
      clear hb3 hW2
      go_wp2
      go_ret
      exact ⟨by rw [HE.out]; rfl, HB3.out⟩
    have HE := Lib.hid (show shB (g :: l) = shB (f :: g :: l) by
      by_cases h : ShL (g :: l)
      · rw [shB_yes h, shB_yes (L := f :: g :: l) ⟨hl, h⟩]
      · rw [shB_no h, shB_no (L := f :: g :: l) (fun k => h k.2)])
    have hb : bcV f g < 0 := bcV_neg.2 hl
    have hbd : decide (bcV f g < 0) = true := by simp only [decide_eq_true_eq]; exact hb
    change bcV ⟨f.r, f.c, f.o, f.n⟩ ⟨g.r, g.c, g.o, g.n⟩ < 0 at hb
    change decide (bcV ⟨f.r, f.c, f.o, f.n⟩ ⟨g.r, g.c, g.o, g.n⟩ < 0) = true at hbd
    clear hl
    show Calls Try.prog 158 _ w _
    go_enter Try.func158, Try.ntmps158
    go_wp2_with fail
    rw [← hW2]
    refine (HBC.out _).mono ?_
    rintro e w3 ⟨rfl, hb3⟩
    have HB3 := Lib.hid (KB.out.trans (hb3.mono (by omega)))
    obtain ⟨y0, y1, y2, y3, y4⟩ := cells5 ((hb3.block (w.heap.size + 1) (by omega)).trans K1.out)
    clear hb3 hW2
    go_wp2_with fail
    refine (IH.out _).mono ?_
    rintro e w4 ⟨rfl, hb4⟩
    have HB4 := Lib.hid (HB3.out.trans (hb4.mono HB3.out.size))
    clear hb4
    go_wp2
    go_ret
    exact ⟨by rw [← HE.out]; rfl, HB4.out⟩

end Go.Proofs.Ytidlloelinmnnaa
