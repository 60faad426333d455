/- Numbers drawn out of a source. -/
import Derived.Test.YtibepggakjfbcaaSrcM
import Derived.Test.YtibepggakjfbcaaIn64
import Derived.OpenShut
import Derived.Deep.RegionWith
namespace Go.Proofs.Ytibepggakjfbcaa
open Go.RowKit
set_option linter.unusedVariables false

theorem odd_ctx (B b len cap m : Nat) (a : Option Addr) (w : World) (h : Ctx w B b a len cap m) (hm : m ≤ 99000) :
    Calls Try.prog 40 #[.pointer (some ⟨b, 0, none⟩)] w fun e w' => ∃ v : Int, In64 v ∧ e = .returned (.int .i64 v) ∧ Ctx w' B b a len cap (m + 4) ∧ w.grownBy w' (some b) := by
  go_enter Try.func40, Try.ntmps40
  go_wp2_with fail
  refine (next_small B b len cap m 14 a _ (h.alloc _) (by omega) (by omega) (by omega)).mono ?_
  rintro e w1 ⟨v, hv, rfl, hc, hg⟩
  have hbw := h.bw
  have hkeep := World.cell?_of_block (a := ⟨w.heap.size, v, none⟩) (hg.block w.heap.size (by simp) (by intro e; injection e; omega))
  obtain ⟨x, hin, hx⟩ : ∃ x : Int, In64 x ∧ w1.cell? ⟨w.heap.size, v, none⟩ = some (.int .i64 x) := by
    rw [hkeep]
    have hv' : v = 0 ∨ v = 1 ∨ v = 2 ∨ v = 3 ∨ v = 4 ∨ v = 5 ∨ v = 6 ∨ v = 7 ∨ v = 8 ∨ v = 9 ∨ v = 10 ∨ v = 11 ∨ v = 12 ∨ v = 13 := by omega
    rcases hv' with rfl | rfl | rfl | rfl | rfl | rfl | rfl | rfl | rfl | rfl | rfl | rfl | rfl | rfl
    · exact ⟨0, by unfold In64; omega, by simp⟩
    · exact ⟨-1, by unfold In64; omega, by simp⟩
    · exact ⟨1, by unfold In64; omega, by simp⟩
    · exact ⟨2, by unfold In64; omega, by simp⟩
    · exact ⟨63, by unfold In64; omega, by simp⟩
    · exact ⟨64, by unfold In64; omega, by simp⟩
    · exact ⟨65, by unfold In64; omega, by simp⟩
    · exact ⟨4096, by unfold In64; omega, by simp⟩
    · exact ⟨8192, by unfold In64; omega, by simp⟩
    · exact ⟨16384, by unfold In64; omega, by simp⟩
    · exact ⟨4097, by unfold In64; omega, by simp⟩
    · exact ⟨9223372036854775807, by unfold In64; omega, by simp⟩
    · exact ⟨-9223372036854775808, by unfold In64; omega, by simp⟩
    · exact ⟨30, by unfold In64; omega, by simp⟩
  have hx' : w1.cell? ⟨w.heap.size, 0 + v, none⟩ = some (.int .i64 x) := by rw [Nat.zero_add]; exact hx
  have hg' : w.grownBy w1 (some b) := grownBy_trans (World.grownBy_alloc w _ _) hg
  clear hkeep hg h
  go_wp2
  go_ret
  exact ⟨x, hin, rfl, hc.mono (by omega), hg'⟩

set_option maxRecDepth 100000 in
theorem wide_ctx (B b len cap m : Nat) (a : Option Addr) (w : World) (h : Ctx w B b a len cap m) (hm : m ≤ 90000) :
    Calls Try.prog 22 #[.pointer (some ⟨b, 0, none⟩)] w fun e w' => ∃ v : Int, In64 v ∧ e = .returned (.int .i64 v) ∧ Ctx w' B b a len cap (m + 100) ∧ w.grownBy w' (some b) := by
  go_enter Try.func22, Try.ntmps22
  go_wp2_with fail
  refine (next_small B b len cap m 7 a w h (by omega) (by omega) (by omega)).mono ?_
  rintro e w1 ⟨k, hk, rfl, hc1, hg1⟩
  have hk7 : k = 0 ∨ k = 1 ∨ k = 2 ∨ k = 3 ∨ k = 4 ∨ k = 5 ∨ k = 6 := by omega
  clear h
  rcases hk7 with rfl | rfl | rfl | rfl | rfl | rfl | rfl
  · clear hk
    go_wp2_with fail
    refine (word_ctx B b len cap _ a _ hc1 (by omega)).mono ?_
    rintro e w2 ⟨x, hx, rfl, hc2, hg2⟩
    go_wp2_with fail
    refine (word_ctx B b len cap _ a _ hc2 (by omega)).mono ?_
    rintro e w3 ⟨y, hy, rfl, hc3, hg3⟩
    have hg := grownBy_trans (grownBy_trans hg1 hg2) hg3
    clear hg1 hg2 hg3 hc1 hc2
    go_wp2
    go_ret
    exact ⟨_, (by first | assumption | exact in64_of (by go_wf2)), rfl, hc3.mono (by omega), hg⟩
  · clear hk
    go_wp2_with fail
    refine (odd_ctx B b len cap _ a _ hc1 (by omega)).mono ?_
    rintro e w2 ⟨x, hin, rfl, hc2, hg2⟩
    have hg := grownBy_trans hg1 hg2
    clear hg1 hg2 hc1
    go_wp2
    go_ret
    exact ⟨_, (by first | assumption | exact in64_of (by go_wf2)), rfl, hc2.mono (by omega), hg⟩
  · clear hk
    go_wp2_with fail
    refine (next_300 B b len cap _ a _ hc1 (by omega)).mono ?_
    rintro e w2 ⟨x, hx, rfl, hc2, hg2⟩
    have hg := grownBy_trans hg1 hg2
    clear hg1 hg2 hc1
    go_wp2
    go_ret
    exact ⟨_, (by first | assumption | exact in64_of (by go_wf2)), rfl, hc2.mono (by omega), hg⟩
  · clear hk
    go_wp2_with fail
    refine (word_ctx B b len cap _ a _ hc1 (by omega)).mono ?_
    rintro e w2 ⟨x, hx, rfl, hc2, hg2⟩
    have hg := grownBy_trans hg1 hg2
    clear hg1 hg2 hc1
    go_wp2
    go_ret
    exact ⟨_, (by first | assumption | exact in64_of (by go_wf2)), rfl, hc2.mono (by omega), hg⟩
  · clear hk
    go_wp2_with fail
    refine (next_small B b len cap _ 64 a _ hc1 (by omega) (by omega) (by omega)).mono ?_
    rintro e w2 ⟨x, hx, rfl, hc2, hg2⟩
    have hg := grownBy_trans hg1 hg2
    clear hg1 hg2 hc1
    go_wp2
    go_ret
    exact ⟨_, (by first | assumption | exact in64_of (by go_wf2)), rfl, hc2.mono (by omega), hg⟩
  all_goals
    clear hk
    go_wp2_with fail
    refine (next_300 B b len cap _ a _ hc1 (by omega)).mono ?_
    rintro e w2 ⟨x, hx, rfl, hc2, hg2⟩
    have hg := grownBy_trans hg1 hg2
    clear hg1 hg2 hc1
    go_wp2
    go_ret
    exact ⟨_, (by first | assumption | exact in64_of (by go_wf2)), rfl, hc2.mono (by omega), hg⟩

/-- A number drawn. -/
theorem numberOf_in (len cap B : Nat) (a : Option Addr) (w : World) (hB : Bytes w B a len) (hb : B ≤ w.heap.size) :
    Calls Try.prog 8 #[.slice a len cap] w fun e w' => ∃ v : Int, In64 v ∧ e = .returned (.int .i64 v) ∧ Below w.heap.size w w' := by
  go_enter Try.func8, Try.ntmps8
  go_wp2_with fail
  refine (source_any len cap a _ hB.1).mono ?_
  rintro e w1 ⟨sd, rfl, hs, hbel, hsz⟩
  go_wp2_with fail
  refine (wide_ctx B _ len cap 0 a _ ⟨⟨0, sd, by omega, hs⟩, hB.below (hbel.mono hb), hb, hsz⟩ (by omega)).mono ?_
  rintro e w2 ⟨v, hv, rfl, _, hg⟩
  go_wp2
  go_ret
  exact ⟨v, hv, rfl, hbel.trans (Below.refl _ _ |>.grown hg (by omega) (fun k e => by injection e; omega))⟩
theorem numberOf_any (len cap B : Nat) (a : Option Addr) (w : World) (hB : Bytes w B a len) (hb : B ≤ w.heap.size) :
    Calls Try.prog 8 #[.slice a len cap] w fun e w' => ∃ v : Int, e = .returned (.int .i64 v) ∧ Below w.heap.size w w' :=
  (numberOf_in len cap B a w hB hb).mono fun e w' ⟨v, _, he, hw⟩ => ⟨v, he, hw⟩
end Go.Proofs.Ytibepggakjfbcaa
