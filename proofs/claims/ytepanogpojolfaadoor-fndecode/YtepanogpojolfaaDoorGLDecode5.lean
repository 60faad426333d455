/- Decode behind Encode, Encode behind Decode: contracts. From the shell's rows to bytes. -/
import Derived.Test.YtepanogpojolfaaDoorGLDecode0
import Derived.Test.YtepanogpojolfaaDoorGXDecode39
import Derived.Test.YtepanogpojolfaaDoorGLDecode4
import Derived.Test.YtepanogpojolfaaDoorGLDecode2
import Derived.OpenShut
import Derived.Deep.RegionWith
namespace Go.Proofs.YtepanogpojolfaaDoor
open Go.RowKit
set_option linter.unusedVariables false

theorem regB_in {v : Int} (h : regB v = true) : 0 ≤ v ∧ v < 32 := by
  have := of_decide_eq_true h
  omega
theorem okB_i {f v : Int} (h1 : 0 ≤ f) (h9 : f ≤ 9) (h : okB f v = true) : okI f v := (okB_iff f v h1 h9).1 h

theorem back_all (f c g h rd r1 r2 im : Int) (hok : shOK f c g h = true) (hf : rightF f rd r1 r2 im = true) : BackP f c g h rd r1 r2 im (encW f c g h rd r1 r2 im) := by
  obtain ⟨f0, f1, c0, c1, g0, g1, h0, h1⟩ := sh_bounds hok
  obtain ⟨m1, m2, m3, m4, m5, m9⟩ := sh_more hok
  rcases (show f = 1 ∨ f = 2 ∨ f = 3 ∨ f = 4 ∨ f = 5 ∨ f = 6 ∨ f = 7 ∨ f = 8 ∨ f = 9 by omega) with rfl | rfl | rfl | rfl | rfl | rfl | rfl | rfl | rfl
  · obtain ⟨rfl, rfl⟩ := m1 rfl
    simp [rightF] at hf
    obtain ⟨⟨⟨b1, rfl⟩, rfl⟩, hi⟩ := hf
    have b1 := regB_in b1
    exact back1 c rd im c0 c1 b1.1 b1.2 (okB_i (by decide) (by decide) hi)
  · obtain ⟨rfl, rfl⟩ := m2 rfl
    simp [rightF] at hf
    obtain ⟨⟨⟨b1, rfl⟩, rfl⟩, hi⟩ := hf
    have b1 := regB_in b1
    exact back2 c rd im c0 c1 b1.1 b1.2 (okB_i (by decide) (by decide) hi)
  · obtain rfl := m3 rfl
    simp [rightF] at hf
    obtain ⟨⟨⟨b1, b2⟩, rfl⟩, hi⟩ := hf
    have b1 := regB_in b1
    have b2 := regB_in b2
    exact back3 c g rd r1 im c0 c1 g0 g1 b1.1 b1.2 b2.1 b2.2 (okB_i (by decide) (by decide) hi)
  · obtain rfl := m4 rfl
    simp [rightF] at hf
    obtain ⟨⟨⟨rfl, b2⟩, b3⟩, hi⟩ := hf
    have b2 := regB_in b2
    have b3 := regB_in b3
    exact back4 c g r1 r2 im c0 c1 g0 g1 b2.1 b2.2 b3.1 b3.2 (okB_i (by decide) (by decide) hi)
  · obtain rfl := m5 rfl
    simp [rightF] at hf
    obtain ⟨⟨⟨rfl, b2⟩, b3⟩, hi⟩ := hf
    have b2 := regB_in b2
    have b3 := regB_in b3
    exact back5 c g r1 r2 im c0 c1 g0 g1 b2.1 b2.2 b3.1 b3.2 (okB_i (by decide) (by decide) hi)
  · simp [rightF] at hf
    obtain ⟨⟨⟨b1, b2⟩, rfl⟩, hi⟩ := hf
    have b1 := regB_in b1
    have b2 := regB_in b2
    exact back6 c g h rd r1 im c0 c1 g0 g1 h0 h1 b1.1 b1.2 b2.1 b2.2 (okB_i (by decide) (by decide) hi)
  · simp [rightF] at hf
    obtain ⟨⟨⟨b1, b2⟩, rfl⟩, hi⟩ := hf
    have b1 := regB_in b1
    have b2 := regB_in b2
    exact back7 c g h rd r1 im c0 c1 g0 g1 h0 h1 b1.1 b1.2 b2.1 b2.2 (okB_i (by decide) (by decide) hi)
  · simp [rightF] at hf
    obtain ⟨⟨⟨b1, b2⟩, b3⟩, rfl⟩ := hf
    have b1 := regB_in b1
    have b2 := regB_in b2
    have b3 := regB_in b3
    exact back8 c g h rd r1 r2 0 c0 c1 g0 g1 h0 h1 b1.1 b1.2 b2.1 b2.2 b3.1 b3.2 rfl
  · obtain rfl := m9 rfl
    simp [rightF] at hf
    obtain ⟨⟨⟨rfl, rfl⟩, rfl⟩, rfl⟩ := hf
    exact back9 c h c0 c1 h0 h1

theorem decBack (op rd r1 r2 im : Int) (hr : rightB op rd r1 r2 im = true) : ∃ W : Int, 0 ≤ W ∧ W < 4294967296 ∧ encT op rd r1 r2 im = W ∧ encE op rd r1 r2 im = 0 ∧
    ∀ w, Calls Tryd.prog 12 #[.int .i64 W] w fun e w' => e = .returned (.tuple #[.agg #[.int .i64 op, .int .i64 rd, .int .i64 r1, .int .i64 r2, .int .i64 im], .int .i64 0]) ∧ Below w.heap.size w w' := by
  have hr' := hr
  unfold rightB at hr
  obtain ⟨hop, hf⟩ := Bool.and_eq_true_iff.1 hr
  have hop := of_decide_eq_true hop
  obtain ⟨w0, w1, hh, e1, e2, e3, e4⟩ := back_all _ _ _ _ rd r1 r2 im (shT_ok op hop.1 hop.2) hf
  refine ⟨encW (shT op).1 (shT op).2.1 (shT op).2.2.1 (shT op).2.2.2 rd r1 r2 im, w0, w1, by unfold encT; rw [if_pos hr'], by unfold encE; rw [if_pos hr'], ?_⟩
  generalize encW (shT op).1 (shT op).2.1 (shT op).2.2.1 (shT op).2.2.2 rd r1 r2 im = W at *
  intro w
  obtain ⟨n, rfl⟩ := Int.eq_ofNat_of_zero_le (show 0 ≤ op by omega)
  have hd := decX W w0 w1 n (by omega) (by omega) (fun j j0 j1 hj => hit_once j n W j0 j1 (by omega) hj hh) hh _ rfl w
  unfold itV at hd
  rw [e1, e2, e3, e4] at hd
  exact hd

theorem decTwo (v : Int) (v0 : 0 ≤ v) (v1 : v < 4294967296) : ∃ a0 a1 a2 a3 a4 co : Int,
    (∀ w, Calls Tryd.prog 16 #[.int .i64 v] w fun e w' => e = .returned (.tuple #[.agg #[.int .i64 a0, .int .i64 a1, .int .i64 a2, .int .i64 a3, .int .i64 a4], .int .i64 co]) ∧ Below w.heap.size w w') ∧
    (∀ w, Calls Tryd.prog 12 #[.int .i64 v] w fun e w' => e = .returned (.tuple #[.agg #[.int .i64 a0, .int .i64 a1, .int .i64 a2, .int .i64 a3, .int .i64 a4], .int .i64 co]) ∧ Below w.heap.size w w') ∧
    (co = 10 ∨ (co = 0 ∧ encT a0 a1 a2 a3 a4 = v ∧ encE a0 a1 a2 a3 a4 = 0)) := by
  rcases first_hit v with h | ⟨n, n0, n1, h, hh⟩
  · exact ⟨0, 0, 0, 0, 0, 10, fun w => sdNo v v0 (by omega) (fun w => dmNone v v0 v1 h w) w, fun w => decNone v v0 v1 h w, .inl rfl⟩
  · refine ⟨n, tkRd (shT n).1 v, tkR1 (shT n).1 v, tkR2 (shT n).1 v, takeF (shT n).1 v, 0, fun w => sdYes v _ _ _ _ _ v0 (by omega) (fun w => dmYes v v0 v1 n n0 n1 h hh _ rfl w) w, fun w => decX v v0 v1 n n0 n1 h hh _ rfl w, .inr ⟨rfl, ?_⟩⟩
    have hb := sh_bounds (shT_ok n (by omega) (by omega))
    have hr : rightB n (tkRd (shT n).1 v) (tkR1 (shT n).1 v) (tkR2 (shT n).1 v) (takeF (shT n).1 v) = true := by
      unfold rightB
      rw [right_taken _ v hb.1 hb.2.1, Bool.and_true]
      exact decide_eq_true ⟨by omega, by omega⟩
    have ha := (hit_all n v _ _ _ _ (by omega) (by omega) v0 v1 rfl).1 hh
    exact ⟨by unfold encT; rw [if_pos hr]; exact ha.2.2, by unfold encE; rw [if_pos hr]⟩

theorem pow31 (k : Nat) (h : k ≤ 31) : (1 : Int) ≤ 2 ^ k ∧ (2 : Int) ^ k ≤ 2147483648 := by
  have h1 := pow_pos k
  have h2 : (2 : Int) ^ k ≤ 2 ^ 31 := pow_le h
  have h3 : (2 : Int) ^ 31 = 2147483648 := rfl
  omega
/-- One bit of the lowest 32 turned. -/
theorem xor_in (W : Int) (k : Nat) (h0 : 0 ≤ W) (h1 : W < 4294967296) (hk : k ≤ 31) : ∃ Z : Int, bits .xor .i64 W (2 ^ k) = Z ∧ 0 ≤ Z ∧ Z < 4294967296 := by
  refine ⟨_, rfl, ?_⟩
  obtain ⟨n, rfl⟩ := Int.eq_ofNat_of_zero_le h0
  have hp := pow31 k hk
  have e : (2 : Int) ^ k = ((2 ^ k : Nat) : Int) := by simp
  have hp2 : (2 ^ k : Nat) < 4294967296 := by omega
  rw [e]
  have hx : n ^^^ 2 ^ k < 2 ^ 32 := Nat.xor_lt_two_pow (by omega) (by omega)
  show 0 ≤ IntKind.i64.wrap ((BitVec.ofInt 64 (n : Int) ^^^ BitVec.ofInt 64 ((2 ^ k : Nat) : Int)).toNat : Int) ∧ IntKind.i64.wrap ((BitVec.ofInt 64 (n : Int) ^^^ BitVec.ofInt 64 ((2 ^ k : Nat) : Int)).toNat : Int) < 4294967296
  rw [BitVec.toNat_xor, ofInt_u64 n (by omega), ofInt_u64 (2 ^ k) (by omega), IntWalk.i64_in _ (by omega)]
  omega

theorem wordDrawn_any (len cap B : Nat) (a : Option Addr) (w : World) (hB : Bytes w B a len) (hb : B ≤ w.heap.size) :
    Calls Tryd.prog 14 #[.slice a len cap] w fun e w' => ∃ v : Nat, v < 4294967296 ∧ e = .returned (.int .i64 v) ∧ Below w.heap.size w w' := by
  go_enter Tryd.func14, Tryd.ntmps14
  go_wp2_with fail
  refine (source_any len cap a _ hB.1).mono ?_
  rintro e w1 ⟨sd, rfl, hs, hbel, hsz⟩
  go_wp2_with fail
  refine (word_ctx B _ len cap 0 a _ ⟨⟨0, sd, by omega, hs⟩, hB.below (hbel.mono hb), hb, hsz⟩ (by omega)).mono ?_
  rintro e w2 ⟨v, hv, rfl, _, hg⟩
  go_wp2
  go_ret
  exact ⟨v, hv, rfl, hbel.trans (Below.refl _ _ |>.grown hg (by omega) (fun k e => by injection e; omega))⟩
end Go.Proofs.YtepanogpojolfaaDoor

namespace Go.Proofs.YtepanogpojolfaaDoor
open Go.RowKit
set_option linter.unusedVariables false

theorem bytes_of_row {w : World} {a : Option Addr} {len cap : Nat} {zs : List Int}
    (h : (a = none ∧ len = 0 ∧ cap = 0 ∧ zs = []) ∨ ∃ x, a = some x ∧ len ≤ cap ∧ cap ≤ maxLen ∧ zs.length = cap ∧ (∀ i, i < zs.length → w.cell? (x.add i) = some (.int .u8 (zs.getD i 0))) ∧ ∀ n ∈ zs, (Lit.int .u8 n).wf = true) :
    Bytes w w.heap.size a len := by
  rcases h with ⟨_, rfl, _, _⟩ | ⟨x, rfl, hl, hm, hz, hcell, hwz⟩
  · exact ⟨Nat.zero_le _, fun i hi => absurd hi (Nat.not_lt_zero _)⟩
  · refine ⟨by omega, fun i hi => ?_⟩
    have hi' : i < zs.length := by omega
    have hc := hcell i hi'
    obtain ⟨b, off, spot⟩ := x
    have hspot : spot = none := by
      have h0 := hcell 0 (by omega)
      simpa [Addr.add] using World.cell?_spot h0
    subst hspot
    have hc' : w.cell? ⟨b, off + i, none⟩ = some (.int .u8 (zs.getD i 0)) := by
      rw [← hc]
      by_cases e : i = 0
      · subst e; simp [Addr.add]
      · simp [Addr.add, e]
    have hmem : zs.getD i 0 ∈ zs := by
      have : zs.getD i 0 = zs[i] := by simp [hi']
      rw [this]
      exact List.getElem_mem _
    have hb := bounds_u8 (hwz _ hmem)
    exact ⟨b, off, zs.getD i 0, rfl, World.block_lt_of_cell? w _ hc', hb.1, by have := hb.2; omega, hc'⟩
end Go.Proofs.YtepanogpojolfaaDoor
