/- Lines of the program that are linked by a rule: the greedy points, half of the points. -/
import Derived.Test.YtmfdflkpbejpoaaThJ
namespace Go.Proofs.Ytmfdflkpbejpoaa
open Go.RowKit
set_option linter.unusedVariables false

theorem two_set1 {w : World} {b : Nat} {x y : Value} {t : TypeId} (h : w.heap[b]? = some (.cells #[x, y] t (0, 0))) (v : Value) : (w.setCell ⟨b, 1, none⟩ v).heap[b]? = some (.cells #[x, v] t (0, 0)) := by
  simp [World.setCell, Array.getElem?_modify, h]
theorem two_set0 {w : World} {b : Nat} {x y : Value} {t : TypeId} (h : w.heap[b]? = some (.cells #[x, y] t (0, 0))) (v : Value) : (w.setCell ⟨b, 0, none⟩ v).heap[b]? = some (.cells #[v, y] t (0, 0)) := by
  simp [World.setCell, Array.getElem?_modify, h]

/-- a chain of knots, each in a block above the one ahead of it; the last one is known -/
def Sg (w : World) : Nat → Value → List Int → Int → Nat → Prop
  | lo, v, [], x, b => v = .pointer (some ⟨b, 0, none⟩) ∧ lo ≤ b ∧ w.heap[b]? = some (.cells #[.int .i64 x, .pointer none] 76 (0, 0))
  | lo, v, y :: l, x, b => ∃ (c : Nat) (u : Value), v = .pointer (some ⟨c, 0, none⟩) ∧ lo ≤ c ∧ c < b ∧ w.heap[c]? = some (.cells #[.int .i64 y, u] 76 (0, 0)) ∧ Sg w (c + 1) u l x b
theorem Sg.last {w : World} : ∀ (l : List Int) {lo : Nat} {v : Value} {x : Int} {b : Nat}, Sg w lo v l x b → w.heap[b]? = some (.cells #[.int .i64 x, .pointer none] 76 (0, 0)) ∧ lo ≤ b
  | [], _, _, _, _, h => ⟨h.2.2, h.2.1⟩
  | _ :: l, _, _, _, _, ⟨c, u, h1, h2, h3, h4, h5⟩ => ⟨(Sg.last l h5).1, by omega⟩
theorem Sg.ch {w : World} : ∀ (l : List Int) {lo : Nat} {v : Value} {x : Int} {b : Nat}, Sg w lo v l x b → Ch w v (l ++ [x])
  | [], _, _, _, _, h => ⟨_, _, h.1, h.2.2, rfl⟩
  | _ :: l, _, _, _, _, ⟨c, u, h1, h2, h3, h4, h5⟩ => ⟨c, u, h1, h4, Sg.ch l h5⟩
theorem Sg.keep {w w' : World} : ∀ (l : List Int) {lo : Nat} {v : Value} {x : Int} {b : Nat}, Sg w lo v l x b → (∀ (k : Nat), lo ≤ k → k ≤ b → w'.heap[k]? = w.heap[k]?) → Sg w' lo v l x b
  | [], _, _, _, _, h, hk => ⟨h.1, h.2.1, (hk _ h.2.1 (Nat.le_refl _)).trans h.2.2⟩
  | _ :: l, _, _, _, _, ⟨c, u, h1, h2, h3, h4, h5⟩, hk => ⟨c, u, h1, h2, h3, (hk c h2 (by omega)).trans h4, Sg.keep l h5 (fun k a b => hk k (by omega) b)⟩
theorem Sg.snoc {w w' : World} {N : Nat} {y : Int} : ∀ (l : List Int) {lo : Nat} {v : Value} {x : Int} {b : Nat}, Sg w lo v l x b → b < N → (∀ (k : Nat), lo ≤ k → k < b → w'.heap[k]? = w.heap[k]?) →
    w'.heap[b]? = some (.cells #[.int .i64 x, .pointer (some ⟨N, 0, none⟩)] 76 (0, 0)) → w'.heap[N]? = some (.cells #[.int .i64 y, .pointer none] 76 (0, 0)) → Sg w' lo v (l ++ [x]) y N
  | [], _, _, _, b, h, hN, hk, h1, h2 => ⟨b, _, h.1, h.2.1, hN, h1, rfl, hN, h2⟩
  | _ :: l, _, _, _, b, ⟨c, u, g1, g2, g3, g4, g5⟩, hN, hk, h1, h2 => ⟨c, u, g1, g2, by omega, (hk c g2 g3).trans g4, Sg.snoc l g5 hN (fun k a b => hk k (by omega) b) h1 h2⟩
theorem Sg.ptr {w : World} {lo : Nat} {v : Value} {l : List Int} {x : Int} {b : Nat} (h : Sg w lo v l x b) : ∃ q, v = .pointer q := by
  cases l with
  | nil => exact ⟨_, h.1⟩
  | cons y l => obtain ⟨c, u, h1, _⟩ := h; exact ⟨_, h1⟩

theorem gdV_small (n : Nat) (z : Nat → Int) (e : Int) : (gdV n z e).length ≤ 1048576 := by
  by_cases h : PeOk n z e
  · have := gdV_len n z e; have := h.1.1.2; omega
  · rw [gdV_no h]; exact Nat.zero_le _
theorem btV_small (n : Nat) (z : Nat → Int) (e : Int) : (btV n z e).length ≤ 1048576 := by
  by_cases h : PeOk n z e
  · have := btV_len n z e; have := h.1.1.2; omega
  · rw [btV_no h]; exact Nat.zero_le _
theorem thH_small (n : Nat) (z : Nat → Int) : (thH n z).length ≤ 1048576 := by
  by_cases h : PrOk n z
  · have := thH_len n z; have := h.1.2; omega
  · rw [thH_no h]; exact Nat.zero_le _

/-- a line as a chain -/
def LkPost (l : List Int) (w : World) (e : Ending) (w' : World) : Prop := ∃ v, e = .returned v ∧ Ch w' v l ∧ Below w.heap.size w w'

set_option maxHeartbeats 4000000 in
set_option maxRecDepth 20000 in
theorem lineBy_any (va : Option Addr) (n vc g : Nat) (cb : Array Value) (f : Nat → Nat) (w : World) (hn1 : 1 ≤ n) (hn20 : n ≤ 20) (hf : Rul n f) (eg : ∀ (args : Array Value) (W : World), Sem.run Try.prog (callFunc g args) W = .ok (.enter g args) W)
    (hc : ∀ (i : Nat) (W : World), i + 1 < n → Below w.heap.size w W → Calls Try.prog g (#[.int .i64 i] ++ cb) W (IntPost (f i : Nat) W)) :
    Calls Try.prog 69 #[.slice va n vc, .func (.func g) #[] cb] w (LkPost (lnL n f 0) w) := by
  have HC := Lib.hid hc
  have HF := Lib.hid hf
  have hb0 : Below w.heap.size w (w.alloc (.cells #[.int .i64 0, .pointer none] 76)) := (Below.refl _ _).alloc (Nat.le_refl _) _
  have h0 := heap_alloc_new w (.cells #[.int .i64 0, .pointer none] 76)
  have hz : (w.alloc (.cells #[.int .i64 0, .pointer none] 76)).heap.size = w.heap.size + 1 := by simp
  have HB0 := Lib.hid hb0
  have H0 := Lib.hid h0
  have HZ := Lib.hid hz
  clear hc hf hb0 h0 hz
  go_enter Try.func69, Try.ntmps69
  go_wp2
  go_loopg [6] (n) (fun gk c wr => ∃ (i b : Nat) (L0 : List Int), i < n ∧ gk = n - i ∧ c = .pointer (some ⟨b, 0, none⟩) ∧ Sg wr w.heap.size (.pointer (some ⟨w.heap.size, 0, none⟩)) L0 i b ∧ Lnr n f i (L0 ++ [(i : Int)]) ∧ Below w.heap.size w wr)
  case atStart => exact ⟨0, _, [], by omega, by omega, rfl, ⟨rfl, Nat.le_refl _, H0.out⟩, lnr_start HF.out, HB0.out⟩
  case round =>
    obtain ⟨i, b, L0, hin, rfl, rfl, hsg, hln, hb⟩ := hrel
    obtain ⟨hlast, hlo⟩ := hsg.last
    obtain ⟨d1, d2, f1, f2⟩ := cells2e hlast
    have hbl : b < wr.heap.size := (Array.getElem?_eq_some_iff.1 hlast).1
    have HSG := Lib.hid hsg
    have HLN := Lib.hid hln
    have HB := Lib.hid hb
    have HLAST := Lib.hid hlast
    clear hsg hln hlast
    by_cases hlt : i + 1 < n
    · have hlt' : (i : Int) < (n : Int) - 1 := by omega
      have hr := HF.out i hlt
      have HCC := Lib.hid (HC.out i wr hlt hb)
      have HST := Lib.hid (HLN.out.step HF.out hlt)
      obtain ⟨j, ej⟩ : ∃ j, f i = j := ⟨_, rfl⟩
      rw [ej] at hr HCC HST
      obtain ⟨hr1, hr2⟩ := hr
      clear ej hb
      go_wp2_with (first | (go_simp; refine HCC.out.mono ?_; rintro e w2 ⟨rfl, hb2⟩; have c1 := (hb2.cell (p := ⟨b, 0, none⟩) hbl).trans d1; have c2 := (hb2.cell (p := ⟨b, 1, none⟩) hbl).trans d2; have hs2 := hb2.size; have g2 : w2.frozen? ⟨b, 1, none⟩ = false := (by have h9 := (hb2.block b hbl).trans HLAST.out; exact (cells2e h9).2.2.2); have hbl2 : b < w2.heap.size := (by omega); have HB2 := Lib.hid hb2; clear hb2))
      have hz1 : (w2.setCell ⟨b, 1, none⟩ (.pointer (some ⟨w2.heap.size, 0, none⟩))).heap.size = w2.heap.size := by simp [World.setCell]
      have hl2 := (HB2.out.block b hbl).trans HLAST.out
      have hset : ∀ k, k ≠ b → k < w2.heap.size → ((w2.setCell ⟨b, 1, none⟩ (.pointer (some ⟨w2.heap.size, 0, none⟩))).alloc (.cells #[.int .i64 j, .pointer none] 76)).heap[k]? = w2.heap[k]? := fun k hk hl => (Below.heap_alloc _ _ _ (by rw [hz1]; exact hl)).trans (Below.heap_setCell _ _ _ _ (by simpa using hk))
      have hnew := heap_alloc_new (w2.setCell ⟨b, 1, none⟩ (.pointer (some ⟨w2.heap.size, 0, none⟩))) (.cells #[.int .i64 j, .pointer none] 76)
      rw [hz1] at hnew
      have hbb : ((w2.setCell ⟨b, 1, none⟩ (.pointer (some ⟨w2.heap.size, 0, none⟩))).alloc (.cells #[.int .i64 j, .pointer none] 76)).heap[b]? = some (.cells #[.int .i64 i, .pointer (some ⟨w2.heap.size, 0, none⟩)] 76 (0, 0)) :=
        (Below.heap_alloc _ _ _ (by rw [hz1]; omega)).trans (two_set1 hl2 _)
      have HSN := Lib.hid (Sg.snoc (N := w2.heap.size) (y := (j : Int)) L0 HSG.out hbl2 (fun k h1 h2 => (hset k (by omega) (by omega)).trans (HB2.out.block k (by omega))) hbb hnew)
      have HBN := Lib.hid (((HB.out.trans (HB2.out.mono HB.out.size)).setCell (p := ⟨b, 1, none⟩) hlo (.pointer (some ⟨w2.heap.size, 0, none⟩))).alloc (by rw [hz1]; have := HB.out.size; omega) (.cells #[.int .i64 j, .pointer none] 76))
      have n1 : ((w2.setCell ⟨b, 1, none⟩ (.pointer (some ⟨w2.heap.size, 0, none⟩))).alloc (.cells #[.int .i64 j, .pointer none] 76)).cell? ⟨b, 1, none⟩ = some (.pointer (some ⟨w2.heap.size, 0, none⟩)) := (cells2e hbb).2.1
      clear hset hnew hbb hl2 hz1
      go_wp2
      go_roundg (n - j)
      case measure => omega
      case rel => exact ⟨j, _, _, by omega, rfl, rfl, HSN.out, HST.out, HBN.out⟩
    · have hlt' : ¬ (i : Int) < (n : Int) - 1 := by omega
      have HCH := Lib.hid (show Ch wr (.pointer (some ⟨w.heap.size, 0, none⟩)) (lnL n f 0) by rw [← HLN.out.last hlt]; exact HSG.out.ch)
      clear hb
      go_wp2
      go_ret
      exact ⟨_, rfl, HCH.out, HB.out⟩

set_option maxHeartbeats 4000000 in
set_option maxRecDepth 20000 in
theorem farthest_q (v : Value) (lo hi n : Nat) (Z : Nat → Int) (e : Int) (i : Nat) (w : World) (hv : RdI lo hi w v n Z) (hok : PrOk n Z) (he : ErOk e) (hin : i + 1 < n) :
    Calls Try.prog 71 #[v, .int .i64 i, .int .i64 e] w (IqPost (grV n Z e i : Nat) w) := by
  have hn20 := hok.1.2
  have HE := Lib.hid (fun (q k : Nat) (h1 : i < k) (h2 : k < n) => errorBetween_q v lo hi n Z i k (w.drewN q) (hv.same (fun _ _ _ => rfl)) hok h1 h2)
  have HR := Lib.hid (fun (b : Nat) (hab : i < b) (hbn : b < n) => (⟨erB_nonneg Z i b, erB_top hok.2 hn20 hab hbn⟩ : 0 ≤ erB Z i b ∧ erB Z i b ≤ 99))
  have HG := Lib.hid (grV_is (n := n) (z := Z) he.1 hin)
  have HU := Lib.hid (fun (k : Nat) (h : GrIs n Z e i k) => GrIs.uniq h (grV_is (n := n) (z := Z) he.1 hin))
  have hwn : IntKind.i64.wrap ((n : Int) - 1) = (n : Int) - 1 := IntWalk.i64_in _ (by omega)
  obtain ⟨he1, he2⟩ := he
  obtain ⟨va, vc, rfl⟩ := hv.shape
  obtain ⟨g, eg⟩ : ∃ g, grV n Z e i = g := ⟨_, rfl⟩
  rw [eg] at HG HU ⊢
  clear hv hok eg
  go_enter Try.func71, Try.ntmps71
  go_wp2
  go_loopw [7] (fun c wr => ∃ k q : Nat, i < k ∧ k < n ∧ c = .int .i64 k ∧ wr = w.drewN q ∧ ∀ k', k < k' → ¬ Stp n Z e i k') (fun c _ => (intOf c).toNat)
  case atStart => exact ⟨n - 1, 0, by omega, by omega, by rw [show ((n - 1 : Nat) : Int) = (n : Int) - 1 by omega], rfl, fun k' h1 h2 => by have := h2.2.1; omega⟩
  case round =>
    obtain ⟨k, q, hk1, hk2, rfl, rfl, hd⟩ := hrel
    have HD := Lib.hid hd
    clear hd
    obtain ⟨hr1, hr2⟩ := HR.out k hk1 hk2
    have HC := Lib.hid (HE.out q k hk1 hk2)
    have HST := Lib.hid (show Stp n Z e i k ↔ erB Z i k ≤ e from ⟨fun h => h.2.2, fun h => ⟨hk1, hk2, h⟩⟩)
    obtain ⟨E, eE⟩ : ∃ E, erB Z i k = E := ⟨_, rfl⟩
    rw [eE] at hr1 hr2 HC HST
    clear eE
    by_cases hs : E ≤ e
    · have HF := Lib.hid (show (k : Int) = (g : Int) by rw [HU.out k ⟨HST.out.2 hs, HD.out⟩])
      have hs' : ¬ e < E := by omega
      go_wp2_with fail
      refine HC.out.mono ?_
      rintro e' w2 ⟨rfl, q2, rfl⟩
      go_wp2
      go_ret
      exact ⟨ret_int HF.out, q + q2, rfl⟩
    · have HN := Lib.hid (fun h => hs (HST.out.1 h))
      have hgk : g < k := by
        by_cases h1 : g = k
        · subst h1; exact absurd (HST.out.1 HG.out.1) hs
        · by_cases h2 : k < g
          · exact absurd HG.out.1 (HD.out g h2)
          · omega
      have hig := HG.out.1.1
      have hs' : e < E := by omega
      go_wp2_with fail
      refine HC.out.mono ?_
      rintro e' w2 ⟨rfl, q2, rfl⟩
      go_wp2
      go_roundw
      case rel => exact ⟨k - 1, q + q2, by omega, by omega, by rw [show ((k - 1 : Nat) : Int) = (k : Int) - 1 by omega], rfl, fun k' h1 h2 => by
        by_cases h3 : k' = k
        · subst h3; exact HN.out h2
        · exact HD.out k' (by omega) h2⟩
      case measure => simp [intOf]; omega

theorem callFunc_greedy : ∀ (args : Array Value) (W : World), Sem.run Try.prog (callFunc 70 args) W = .ok (.enter 70 args) W := fun _ _ => by kernel_rfl
theorem callFunc_half : ∀ (args : Array Value) (W : World), Sem.run Try.prog (callFunc 76 args) W = .ok (.enter 76 args) W := fun _ _ => by kernel_rfl

set_option maxHeartbeats 4000000 in
set_option maxRecDepth 20000 in
theorem clos_greedy (v : Value) (lo hi n : Nat) (Z : Nat → Int) (e : Int) (i A B : Nat) (w : World) (hv : RdI lo hi w v n Z) (hok : PrOk n Z) (he : ErOk e) (hin : i + 1 < n)
    (hA : w.cell? ⟨A, 0, none⟩ = some v) (hB : w.cell? ⟨B, 0, none⟩ = some (.int .i64 e)) :
    Calls Try.prog 70 #[.int .i64 i, .pointer (some ⟨A, 0, none⟩), .pointer (some ⟨B, 0, none⟩)] w (IntPost (grV n Z e i : Nat) w) := by
  have HF := Lib.hid (farthest_q v lo hi n Z e i w hv hok he hin)
  obtain ⟨va, vc, rfl⟩ := hv.shape
  obtain ⟨g, eg⟩ : ∃ g, grV n Z e i = g := ⟨_, rfl⟩
  rw [eg] at HF ⊢
  clear hv hok he eg
  go_enter Try.func70, Try.ntmps70
  go_wp2_with fail
  refine HF.out.mono ?_
  rintro e' w2 ⟨rfl, q, rfl⟩
  go_wp2
  go_ret
  exact ⟨rfl, below_drewN (Below.refl _ _) q⟩

set_option maxHeartbeats 4000000 in
set_option maxRecDepth 20000 in
theorem clos_half (va : Option Addr) (n vc i A : Nat) (w : World) (hn : n ≤ 20) (hin : i + 1 < n) (hA : w.cell? ⟨A, 0, none⟩ = some (.slice va n vc)) :
    Calls Try.prog 76 #[.int .i64 i, .pointer (some ⟨A, 0, none⟩)] w (IntPost (haF n i : Nat) w) := by
  have HM := Lib.hid (show min ((i : Int) + 2) ((n : Int) - 1) = ((haF n i : Nat) : Int) by unfold haF; omega)
  go_enter Try.func76, Try.ntmps76
  go_wp2
  go_ret
  exact ⟨ret_int HM.out, Below.refl _ _⟩

theorem profileWithin_yes (v : Value) (lo hi n : Nat) (Z : Nat → Int) (e : Int) (w : World) (hv : RdI lo hi w v n Z) (h : PeOk n Z e) :
    Calls Try.prog 62 #[v, .int .i64 e] w (fun en w' => en = .returned (.tuple #[v, .bool true]) ∧ w = w') := by
  have HP := Lib.hid (profileOf_yes v lo hi n Z w hv h.1)
  have HI := Lib.hid (decide_eq_true (show 0 ≤ e ∧ e ≤ 99 from h.2))
  obtain ⟨va, vc, rfl⟩ := hv.shape
  clear hv h
  go_enter Try.func62, Try.ntmps62
  go_wp2_with fail
  refine HP.out.mono ?_
  rintro e' w1 ⟨rfl, rfl⟩
  go_wp2_with fail
  refine (isError_any e _).mono ?_
  rintro e' w2 ⟨rfl, rfl⟩
  rw [HI.out]
  go_wp2
  go_ret2
  exact ⟨rfl, rfl⟩
theorem profileWithin_no (v : Value) (lo hi n : Nat) (Z : Nat → Int) (e : Int) (w : World) (hv : RdI lo hi w v n Z) (h : ¬ PeOk n Z e) :
    Calls Try.prog 62 #[v, .int .i64 e] w (fun en w' => en = .returned (.tuple #[.slice none 0 0, .bool false]) ∧ w = w') := by
  by_cases hok : PrOk n Z
  · have HP := Lib.hid (profileOf_yes v lo hi n Z w hv hok)
    have HI := Lib.hid (decide_eq_false (show ¬ (0 ≤ e ∧ e ≤ 99) from fun g => h ⟨hok, g⟩))
    obtain ⟨va, vc, rfl⟩ := hv.shape
    clear hv h hok
    go_enter Try.func62, Try.ntmps62
    go_wp2_with fail
    refine HP.out.mono ?_
    rintro e' w1 ⟨rfl, rfl⟩
    go_wp2_with fail
    refine (isError_any e _).mono ?_
    rintro e' w2 ⟨rfl, rfl⟩
    rw [HI.out]
    go_wp2
    go_ret2
    exact ⟨rfl, rfl⟩
  · have HP := Lib.hid (profileOf_no v lo hi n Z w hv hok)
    obtain ⟨va, vc, rfl⟩ := hv.shape
    clear hv h hok
    go_enter Try.func62, Try.ntmps62
    go_wp2_with fail
    refine HP.out.mono ?_
    rintro e' w1 ⟨rfl, rfl⟩
    go_wp2
    go_ret2
    exact ⟨rfl, rfl⟩

set_option maxHeartbeats 4000000 in
set_option maxRecDepth 20000 in
theorem implThinGreedy_any (v : Value) (lo hi n : Nat) (Z : Nat → Int) (e : Int) (w : World) (hv : RdI lo hi w v n Z) (hh : hi ≤ w.heap.size) :
    Calls Try.prog 33 #[v, .int .i64 e] w (NbPost (peB n Z e) (gdV n Z e) w) := by
  have hb1 : Below w.heap.size w (w.alloc (.cells #[.int .i64 e] 3)) := (Below.refl _ _).alloc (Nat.le_refl _) _
  have c1 : (w.alloc (.cells #[.int .i64 e] 3)).cell? ⟨w.heap.size, 0, none⟩ = some (.int .i64 e) := (show Boxed _ w.heap.size 3 (.int .i64 e) from heap_alloc_new w _).cell
  have hz1 : (w.alloc (.cells #[.int .i64 e] 3)).heap.size = w.heap.size + 1 := by simp
  by_cases h : PeOk n Z e
  · have HP := Lib.hid (profileWithin_yes v lo hi n Z e (w.alloc (.cells #[.int .i64 e] 3)) (hv.same (SameIn.below hb1 hh)) h)
    have HA := Lib.hid (gdV_yes h)
    rw [peB_yes h, gdV_yes h]
    obtain ⟨k1, k2, ksz, kb⟩ := bk_two w (.cells #[.int .i64 e] 3) (.cells #[v] 49)
    have HL := Lib.hid (by
      obtain ⟨va, vc, rfl⟩ := hv.shape
      exact lineBy_any va n vc 70 #[.pointer (some ⟨w.heap.size + 1, 0, none⟩), .pointer (some ⟨w.heap.size, 0, none⟩)] (grV n Z e) ((w.alloc (.cells #[.int .i64 e] 3)).alloc (.cells #[.slice va n vc] 49)) h.1.1.1 h.1.1.2 (grV_rul h.2.1) callFunc_greedy
        (fun i W hin hbw => clos_greedy _ lo hi n Z e i (w.heap.size + 1) w.heap.size W (hv.same (SameIn.below (kb.trans (hbw.mono (by omega))) hh)) h.1 h.2 hin
          ((hbw.cell (p := ⟨w.heap.size + 1, 0, none⟩) (by rw [ksz]; show w.heap.size + 1 < _; omega)).trans (show Boxed _ (w.heap.size + 1) 49 (.slice va n vc) from k2).cell) ((hbw.cell (p := ⟨w.heap.size, 0, none⟩) (by rw [ksz]; show w.heap.size < _; omega)).trans (show Boxed _ w.heap.size 3 (.int .i64 e) from k1).cell))
      : Calls Try.prog 69 #[v, .func (.func 70) #[] #[.pointer (some ⟨w.heap.size + 1, 0, none⟩), .pointer (some ⟨w.heap.size, 0, none⟩)]] ((w.alloc (.cells #[.int .i64 e] 3)).alloc (.cells #[v] 49)) (LkPost (lnL n (grV n Z e) 0) ((w.alloc (.cells #[.int .i64 e] 3)).alloc (.cells #[v] 49))))
    have hlen : (lnL n (grV n Z e) 0).length ≤ 100 := Nat.le_trans (lnF_len n 0) (by have := h.1.1.2; omega)
    have HKB := Lib.hid kb
    have HG := Lib.hid (show gyL n Z e = lnL n (grV n Z e) 0 from rfl)
    obtain ⟨va, vc, rfl⟩ := hv.shape
    clear hv h hb1 k1 k2 kb
    go_enter Try.func33, Try.ntmps33
    go_wp2_with fail
    refine HP.out.mono ?_
    rintro e' w1 ⟨rfl, rfl⟩
    go_wp2_with fail
    refine HL.out.mono ?_
    rintro e' w2 ⟨x, rfl, hch, hb⟩
    have HP2 := Lib.hid (points_any x _ w2 hch hlen)
    have HB2 := Lib.hid (HKB.out.trans (hb.mono HKB.out.size))
    obtain ⟨xq, rfl⟩ := hch.ptr
    clear hch hb
    go_wp2_with fail
    refine HP2.out.mono ?_
    rintro e' w3 ⟨y, rfl, hnu, hb⟩
    have HNU := Lib.hid (hnu.down HB2.out.size)
    have HB3 := Lib.hid (HB2.out.trans (hb.mono HB2.out.size))
    obtain ⟨ya, yc, rfl⟩ := hnu.shape
    clear hnu hb
    go_wp2
    go_ret2
    exact NbPost.mk' rfl HG.out HNU.out HB3.out
  · have HP := Lib.hid (profileWithin_no v lo hi n Z e (w.alloc (.cells #[.int .i64 e] 3)) (hv.same (SameIn.below hb1 hh)) h)
    have HB2 := Lib.hid (hb1.alloc (by rw [hz1]; omega) (.cells #[.slice none 0 0] 49))
    rw [peB_no h, gdV_no h]
    obtain ⟨va, vc, rfl⟩ := hv.shape
    clear hv h hb1
    go_enter Try.func33, Try.ntmps33
    go_wp2_with fail
    refine HP.out.mono ?_
    rintro e' w1 ⟨rfl, rfl⟩
    go_wp2
    go_ret2
    exact NbPost.mk' rfl rfl (nums_none _ _) HB2.out

set_option maxHeartbeats 4000000 in
set_option maxRecDepth 20000 in
theorem implThinHalf_any (v : Value) (lo hi n : Nat) (Z : Nat → Int) (w : World) (hv : RdI lo hi w v n Z) (hh : hi ≤ w.heap.size) :
    Calls Try.prog 43 #[v] w (NbPost (prB n Z) (thH n Z) w) := by
  by_cases h : PrOk n Z
  · have HP := Lib.hid (profileOf_yes v lo hi n Z w hv h)
    rw [prB_yes h, thH_yes h]
    have k1 := heap_alloc_new w (.cells #[v] 49)
    have kb : Below w.heap.size w (w.alloc (.cells #[v] 49)) := (Below.refl _ _).alloc (Nat.le_refl _) _
    have ksz : (w.alloc (.cells #[v] 49)).heap.size = w.heap.size + 1 := by simp
    have HL := Lib.hid (by
      obtain ⟨va, vc, rfl⟩ := hv.shape
      exact lineBy_any va n vc 76 #[.pointer (some ⟨w.heap.size, 0, none⟩)] (haF n) (w.alloc (.cells #[.slice va n vc] 49)) h.1.1 h.1.2 (haF_rul n) callFunc_half
        (fun i W hin hbw => clos_half va n vc i w.heap.size W h.1.2 hin ((hbw.cell (p := ⟨w.heap.size, 0, none⟩) (by rw [ksz]; show w.heap.size < _; omega)).trans (show Boxed _ w.heap.size 49 (.slice va n vc) from k1).cell))
      : Calls Try.prog 69 #[v, .func (.func 76) #[] #[.pointer (some ⟨w.heap.size, 0, none⟩)]] (w.alloc (.cells #[v] 49)) (LkPost (lnL n (haF n) 0) (w.alloc (.cells #[v] 49))))
    have hlen : (lnL n (haF n) 0).length ≤ 100 := Nat.le_trans (lnF_len n 0) (by have := h.1.2; omega)
    have HKB := Lib.hid kb
    have HG := Lib.hid (show haL n = lnL n (haF n) 0 from rfl)
    obtain ⟨va, vc, rfl⟩ := hv.shape
    clear hv h k1 kb
    go_enter Try.func43, Try.ntmps43
    go_wp2_with fail
    refine HP.out.mono ?_
    rintro e' w1 ⟨rfl, rfl⟩
    go_wp2_with fail
    refine HL.out.mono ?_
    rintro e' w2 ⟨x, rfl, hch, hb⟩
    have HP2 := Lib.hid (points_any x _ w2 hch hlen)
    have HB2 := Lib.hid (HKB.out.trans (hb.mono HKB.out.size))
    obtain ⟨xq, rfl⟩ := hch.ptr
    clear hch hb
    go_wp2_with fail
    refine HP2.out.mono ?_
    rintro e' w3 ⟨y, rfl, hnu, hb⟩
    have HNU := Lib.hid (hnu.down HB2.out.size)
    have HB3 := Lib.hid (HB2.out.trans (hb.mono HB2.out.size))
    obtain ⟨ya, yc, rfl⟩ := hnu.shape
    clear hnu hb
    go_wp2
    go_ret2
    exact NbPost.mk' rfl HG.out HNU.out HB3.out
  · have HP := Lib.hid (profileOf_no v lo hi n Z w hv h)
    have HB2 := Lib.hid ((Below.refl w.heap.size w).alloc (Nat.le_refl _) (.cells #[.slice none 0 0] 49))
    rw [prB_no h, thH_no h]
    obtain ⟨va, vc, rfl⟩ := hv.shape
    clear hv h
    go_enter Try.func43, Try.ntmps43
    go_wp2_with fail
    refine HP.out.mono ?_
    rintro e' w1 ⟨rfl, rfl⟩
    go_wp2
    go_ret2
    exact NbPost.mk' rfl rfl (nums_none _ _) HB2.out

end Go.Proofs.Ytmfdflkpbejpoaa
