/- WaterSinks of the program. -/
import Derived.Test.YtjllmidagcniaaaSinkI
import Derived.Test.YtjllmidagcniaaaSinkS
import Derived.Test.YtjllmidagcniaaaRunE
namespace Go.Proofs.Ytjllmidagcniaaa
open Go.RowKit Go.Shelf
set_option linter.unusedVariables false

/-- the sinks as an iterator at rest: what Collect asks -/
theorem sinks_seq (R C gg cap cnt : Nat) (hR : R ≤ 7) (hC : C ≤ 7) (Z : Nat → Int) (w w' : World) (hrv : Rv w R C cnt gg cap Z) (B : Nat) (hB : B = w.heap.size)
    (hw' : w' = w.alloc (.cells #[.int .i64 R, .int .i64 C, .slice (some ⟨gg, 0, none⟩) cnt cap] 58)) :
    Calls Try.prog 78 #[.func (.func 100) #[] #[.pointer (some ⟨B, 0, none⟩)]] w' (CoPost (skL R C Z (R * C)) w') := by
  subst hB
  have hb : Below w.heap.size w w' := by rw [hw']; exact (Below.refl _ _).alloc (Nat.le_refl _) _
  have hsz : w'.heap.size = w.heap.size + 1 := by rw [hw']; simp
  have k1 : w'.heap[w.heap.size]? = some (.cells #[.int .i64 R, .int .i64 C, .slice (some ⟨gg, 0, none⟩) cnt cap] 58 (0, 0)) := by
    rw [hw']; exact heap_alloc_new w _
  have hgl := hrv.lt
  have hlen := skL_len R C Z (R * C)
  have h49 := mul_le_49 hR hC
  exact collect_any 100 #[.pointer (some ⟨w.heap.size, 0, none⟩)] (enters_of Try.func100 (by kernel_rfl) rfl) w.heap.size gg (skL R C Z (R * C)) _ _ (by omega) w' (by omega) (by omega)
    (sinks_stops 4 (by omega) w.heap.size R C gg cap cnt hR hC Z w' (by omega) (three_cells k1) (hrv.keep hb (Nat.le_refl _)))

set_option maxHeartbeats 4000000 in
set_option maxRecDepth 100000 in
theorem implWaterSinks_any (v : Value) (lo hi : Nat) (g : G) (w : World) (hv : RdM lo hi w v g) (hh : hi ≤ w.heap.size) :
    Calls Try.prog 50 #[v] w (LvPost g.skV w) := by
  by_cases h : g.Valid
  case neg =>
    have HC := Lib.hid (reliefOf_no v lo hi g w hv hh h)
    have HA := Lib.hid (G.skV_no h)
    clear hv h
    go_enter Try.func50, Try.ntmps50
    go_wp2_with fail
    refine HC.out.mono ?_
    rintro e w1 ⟨rfl, hb1⟩
    have HB1 := Lib.hid (hb1.alloc hb1.size (.cells #[.int .i64 0, .int .i64 0, .slice none 0 0] 58))
    clear hb1
    go_wp2
    go_ret
    exact LvPost.mk' HA.out (lists_nil _ _) HB1.out
  case pos =>
    have HC := Lib.hid (reliefOf_yes v lo hi g w hv hh h)
    have HA := Lib.hid (G.skV_yes h)
    have hn7 := h.1.2
    have hl7 := h.2.1.2
    clear hv h
    go_enter Try.func50, Try.ntmps50
    go_wp2_with fail
    refine HC.out.mono ?_
    intro e w1 hq
    obtain ⟨n, gg, cap, rfl, hrv, hb1⟩ := hq.rv
    have HLOC := Lib.hid (heap_alloc_new w1 (.cells #[.int .i64 g.n, .int .i64 (g.len 0), .slice (some ⟨gg, 0, none⟩) n cap] 58))
    have HB1 := Lib.hid (hb1.alloc hb1.size (.cells #[.int .i64 g.n, .int .i64 (g.len 0), .slice (some ⟨gg, 0, none⟩) n cap] 58))
    have HRV := Lib.hid (hrv.keep ((Below.refl w1.heap.size w1).alloc (Nat.le_refl _) (.cells #[.int .i64 g.n, .int .i64 (g.len 0), .slice (some ⟨gg, 0, none⟩) n cap] 58)) (Nat.le_refl _))
    clear hq hrv hb1
    go_wp2_with (first
      | (go_at_call 81; refine (sinks_any g.n (g.len 0) gg n cap _).mono ?_; rintro e w4 ⟨rfl, hw4⟩; have HW4 := Lib.hid hw4; have HB4 := Lib.hid (show Below _ _ w4 from hw4 ▸ (Below.refl _ _).alloc (Nat.le_refl _) _); clear hw4)
      | (go_at_call 78; refine (sinks_seq g.n (g.len 0) gg cap n hn7 hl7 g.flat _ _ HRV.out _ (by simp) HW4.out).mono ?_; rintro e w5 ⟨v5, rfl, hl5, hb5⟩; have HB5 := Lib.hid hb5; have HL5 := Lib.hid hl5; clear hb5 hl5))
    go_ret
    exact LvPost.mk' HA.out (World.ownsRow.mono HL5.out (Nat.le_trans HB1.out.size HB4.out.size)) (HB1.out.trans ((HB4.out.trans (HB5.out.mono HB4.out.size)).mono HB1.out.size))

theorem LvPost.ls {M : Nat} {l : List (Ix M)} {w w' : World} {e : Ending} (h : LvPost l w e w') (hM : M ≤ 49) : LsPost1 l.length (ixZ l) w e w' := by
  obtain ⟨v, he, hl, hb⟩ := h
  obtain ⟨a, c, rfl⟩ := hl.shape
  exact ⟨_, he, ⟨_, _, _, rfl⟩, (hl.owI hM).rd, hb⟩
theorem LvPost.lg {M : Nat} {l : List (Ix M)} {w w' : World} {e : Ending} (h : LvPost l w e w') (hM : M ≤ 49) : LgPost1 l.length (ixZ l) w e w' := by
  obtain ⟨v, he, hl, hb⟩ := h
  obtain ⟨a, c, rfl⟩ := hl.shape
  exact ⟨_, he, ⟨_, _, _, rfl⟩, hl.owI hM, hb⟩
theorem LvPost.nil0 {M : Nat} {L : List (Ix M)} {w w' : World} {e : Ending} (h : LvPost L w e w') (e0 : L = []) : LvPost ([] : List (Ix 0)) w e w' := by
  subst e0
  obtain ⟨v, he, hl, hb⟩ := h
  exact ⟨v, he, hl, hb⟩

end Go.Proofs.Ytjllmidagcniaaa
