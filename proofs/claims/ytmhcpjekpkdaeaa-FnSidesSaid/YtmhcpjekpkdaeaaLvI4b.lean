/- The count of sides in the program. -/
import Derived.Test.YtmhcpjekpkdaeaaLvI4
namespace Go.Proofs.Ytmhcpjekpkdaeaa
open Go.RowKit Go.Shelf
set_option linter.unusedVariables false
attribute [local go_sem] Oper.semAt_some

set_option maxHeartbeats 1000000 in
set_option maxRecDepth 20000 in
theorem sides_any (R C gg cnt cap : Nat) (lv : Int) (w : World) :
    Calls Try.prog 75 #[.agg #[.int .i64 R, .int .i64 C, .slice (some ⟨gg, 0, none⟩) cnt cap, .int .i64 lv]] w fun e w' =>
      e = .returned (.func (.func 83) #[] #[.pointer (some ⟨w.heap.size, 0, none⟩)]) ∧ w' = w.alloc (.cells #[.int .i64 R, .int .i64 C, .slice (some ⟨gg, 0, none⟩) cnt cap, .int .i64 lv] 48) := by
  go_enter Try.func75, Try.ntmps75
  go_wp2
  go_ret
  exact ⟨rfl, rfl⟩

theorem kqs_put {Bm gg n : Nat} (h1 : Bm < n) (h2 : gg < n) (s : Nat) (W : World) (l : Nat) (o' : Obj) (hl : n ≤ l) (hs : l < s) : KqS Bm gg s W (W.putObj l o') :=
  ⟨by simp, fun k hk hlt => World.putObj_heap_other (by omega)⟩

set_option maxRecDepth 100000 in
set_option maxHeartbeats 4000000 in
theorem sideCount_any (R C gg cap cnt : Nat) (hR : R ≤ 7) (hC : C ≤ 7) (Z : Nat → Int) (lv : Int) (w : World) (h : Rv w R C cnt gg cap Z) :
    Calls Try.prog 54 #[.agg #[.int .i64 R, .int .i64 C, .slice (some ⟨gg, 0, none⟩) cnt cap, .int .i64 lv]] w (IntPost (sidesN R C Z lv (R * C)) w) := by
  have H := Lib.hid h
  have h49 := mul_le_49 hR hC
  have hgl : gg < w.heap.size := h.lt
  clear h
  refine (callsIn_wide (n := 5)).1 ?_
  refine callsIn_of_wp_marks Try.func54 rfl trivial ?_ rfl
  simp only [Try.ntmps54, List.size_toArray, List.length_cons, List.length_nil, Nat.reduceAdd, Nat.reduceSub, Array.replicate_succ, Array.replicate_zero, List.push_toArray, List.append_toArray, List.nil_append, List.cons_append]
  gi_wp2_with (refine ⟨trivial, ?_⟩; gi_at_call 75; refine (callsIn_wide.2 (sides_any R C gg cnt cap lv _)).mono ?_; rintro e w' ⟨rfl, rfl⟩)
  obtain ⟨k1, k2, k3, ksz, kb⟩ := three_allocs w (.cells #[.int .i64 R, .int .i64 C, .slice (some ⟨gg, 0, none⟩) cnt cap, .int .i64 lv] 48) (.cells #[.int .i64 0] 3) (.cells #[.int .i64 R, .int .i64 C, .slice (some ⟨gg, 0, none⟩) cnt cap, .int .i64 lv] 48)
  generalize hW0 : ((w.alloc (.cells #[.int .i64 R, .int .i64 C, .slice (some ⟨gg, 0, none⟩) cnt cap, .int .i64 lv] 48)).alloc (.cells #[.int .i64 0] 3)).alloc (.cells #[.int .i64 R, .int .i64 C, .slice (some ⟨gg, 0, none⟩) cnt cap, .int .i64 lv] 48) = W0 at k1 k2 k3 ksz kb ⊢
  clear hW0
  refine wpIn_calm (ps := #[6, 7]) (sides_calm 4 (by omega) (w.heap.size + 1 + 1) R C gg cap cnt hR hC Z lv W0 (by omega) k3 (H.out.keep kb (Nat.le_refl _))) rfl (by omega) rfl trivial (enters_of Try.func83 (by kernel_rfl) rfl)
    KqS.trans (kqs_put (by omega) (by omega)) (Below.refl _ _) (fun _ => rfl)
    (fun pre W => Boxed W (w.heap.size + 1) 3 (.int .i64 pre.length) ∧ Below w.heap.size w W)
    (OwnFrom.and (Own.from (boxed_own _ _ _) _) (ownFrom_below (Nat.le_refl _) (by omega))) ⟨k2, kb⟩
    (fun x => { tmps := #[.agg #[.int .i64 R, .int .i64 C, .slice (some ⟨gg, 0, none⟩) cnt cap, .int .i64 lv], .pointer (some ⟨w.heap.size, 0, none⟩), .int .i64 0, .pointer (some ⟨w.heap.size + 1, 0, none⟩), .agg #[.int .i64 R, .int .i64 C, .slice (some ⟨gg, 0, none⟩) cnt cap, .int .i64 lv], .func (.func 83) #[] #[.pointer (some ⟨w.heap.size + 1 + 1, 0, none⟩)], .int .i64 x.1.1, .int .i64 x.2.1, undef, undef, undef], defers := [] }) ?assign ?body ?done
  case assign =>
    intro l x W K hK
    gi_wp2
    simpa [pEnc] using hK
  case body =>
    rintro l pre x W ⟨hbx, hB⟩ hpl
    have c1 := hbx.cell
    have f1 := hbx.frozen
    have hp : (pre.length : Int) ≤ 200 := by omega
    have HBX := Lib.hid hbx
    have HB := Lib.hid hB
    clear hbx hB k1 k2 k3 kb
    gi_wp2
    refine ⟨KeepsOthers.setCell _ _ _, ⟨by simp [World.setCell], fun k hk _ => Below.heap_setCell _ _ _ _ (by simp; omega)⟩, ?_, HB.out.setCell (p := ⟨w.heap.size + 1, 0, none⟩) (Nat.le_succ _) _⟩
    have e : ((pre ++ [x]).length : Int) = (pre.length : Int) + 1 := by simp
    rw [e]
    exact HBX.out.set _
  case done =>
    rintro D ys W hD rfl ⟨hbx, hB⟩ hKD
    have cS := hbx.cell
    rw [prN_len] at cS
    have HB := Lib.hid hB
    have HKD := Lib.hid hKD
    clear hbx hB hKD k1 k2 k3
    gi_wp2
    refine ⟨by simp, .inl ⟨_, _, rfl, run_takeDeferred HKD.out, ?_⟩⟩
    exact ⟨_, results_tmp rfl _ _ _, rfl, HB.out.trans (belowK_b (w := w) (Nat.le_refl _) W D _ _ (by omega) HKD.out rfl rfl)⟩

set_option maxHeartbeats 2000000 in
set_option maxRecDepth 100000 in
theorem implLevelSides_any (v : Value) (lo hi : Nat) (g : G) (lv : Int) (w : World) (hv : RdM lo hi w v g) (hh : hi ≤ w.heap.size) :
    Calls Try.prog 26 #[v, .int .i64 lv] w (IntPost (g.sdV lv) w) := by
  by_cases h : g.LvOk lv
  case neg =>
    have HC := Lib.hid (layerOf_no v lo hi g lv w hv hh h)
    have HA := Lib.hid (G.sdV_no h)
    clear hv h
    go_enter Try.func26, Try.ntmps26
    go_wp2_with fail
    refine HC.out.mono ?_
    rintro e w1 ⟨rfl, hb1⟩
    have HB1 := Lib.hid (hb1.alloc hb1.size (.cells #[.int .i64 0, .int .i64 0, .slice none 0 0, .int .i64 0] 48))
    clear hb1
    go_wp2
    go_ret
    exact ⟨ret_int HA.out.symm, HB1.out⟩
  case pos =>
    have HC := Lib.hid (layerOf_yes v lo hi g lv w hv hh h)
    have HA := Lib.hid (G.sdV_yes h)
    have h49 := mul_le_49 h.1.1.2 h.1.2.1.2
    have h71 := h.1.1.2
    have h72 := h.1.2.1.2
    clear hv h
    go_enter Try.func26, Try.ntmps26
    go_wp2_with fail
    refine HC.out.mono ?_
    rintro e w1 ⟨n, gg, cap, rfl, hrv, hb1⟩
    have HN := Lib.hid hrv.n_eq
    have hn49 : n ≤ 49 := by rw [hrv.n_eq]; exact h49
    have HB1 := Lib.hid (hb1.alloc hb1.size (.cells #[.int .i64 g.n, .int .i64 (g.len 0), .slice (some ⟨gg, 0, none⟩) n cap, .int .i64 lv] 48))
    have HL := Lib.hid (sideCount_any g.n (g.len 0) gg cap n h71 h72 g.flat lv _ (hrv.keep ((Below.refl w1.heap.size w1).alloc (Nat.le_refl _) (.cells #[.int .i64 g.n, .int .i64 (g.len 0), .slice (some ⟨gg, 0, none⟩) n cap, .int .i64 lv] 48)) (Nat.le_refl _)))
    clear hrv hb1
    go_wp2_with fail
    refine HL.out.mono ?_
    rintro e w3 ⟨rfl, hb3⟩
    have HB3 := Lib.hid (HB1.out.trans (hb3.mono HB1.out.size))
    clear hb3
    go_wp2
    go_ret
    exact ⟨ret_int (by rw [HA.out]), HB3.out⟩


end Go.Proofs.Ytmhcpjekpkdaeaa