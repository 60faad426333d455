/- Sources, choices: contracts. -/
import Derived.Test.YtibepggakjfbcaaSrcB
namespace Go.Proofs.Ytibepggakjfbcaa
open Go.RowKit
set_option linter.unusedVariables false

theorem Bytes.grown {w w' : World} {B b : Nat} {a : Option Addr} {len : Nat} (h : Bytes w B a len) (hg : w.grownBy w' (some b)) (hB : B ≤ b) (hs : B ≤ w.heap.size) : Bytes w' B a len :=
  ⟨h.1, fun i hi => by
    obtain ⟨bx, off, c, h1, h2, h3, h4, h5⟩ := h.2 i hi
    exact ⟨bx, off, c, h1, h2, h3, h4, (World.cell?_of_block (hg.block bx (by omega) (by intro e; injection e; omega))).trans h5⟩⟩

theorem Src.grown {w w' : World} {b : Nat} {a : Option Addr} {len cap : Nat} {p sd : Int} {row : Option Nat} (h : Src w b a len cap p sd) (hg : w.grownBy w' row) (hb : b < w.heap.size) (hne : some b ≠ row) : Src w' b a len cap p sd :=
  ⟨(World.cell?_of_block (hg.block b hb hne)).trans h.c0, (World.cell?_of_block (hg.block b hb hne)).trans h.c1, (World.cell?_of_block (hg.block b hb hne)).trans h.c2,
    (World.frozen?_of_block (hg.block b hb hne)).trans h.f1, (World.frozen?_of_block (hg.block b hb hne)).trans h.f2, h.p0, h.p1, h.s0, h.s1⟩

theorem Src.alloc {w : World} {b : Nat} {a : Option Addr} {len cap : Nat} {p sd : Int} (h : Src w b a len cap p sd) (hb : b < w.heap.size) (o : Obj) : Src (w.alloc o) b a len cap p sd :=
  h.grown (World.grownBy_alloc w o none) hb (by simp)

theorem grownBy_own {w w1 w2 : World} {r row : Option Nat} (h : w.grownBy w1 r) (k : w1.grownBy w2 row) (hr : ∀ i, row = some i → w.heap.size ≤ i) : w.grownBy w2 r :=
  ⟨k.os.trans h.os, k.tape.trans h.tape, k.output.trans h.output, Nat.le_trans h.size k.size, fun i hi hne =>
    (k.block i (Nat.lt_of_lt_of_le hi h.size) (by intro e; have := hr i e.symm; omega)).trans (h.block i hi hne)⟩

theorem grownBy_alloc1 {w w1 : World} {r : Option Nat} (h : w.grownBy w1 r) (o : Obj) : w.grownBy (w1.alloc o) r :=
  grownBy_own h (World.grownBy_alloc w1 o none) (fun _ e => by cases e)

theorem wrap_i64_in (x : Int) (h : -9223372036854775808 ≤ x) (h' : x < 9223372036854775808) : IntKind.i64.wrap x = x := by
  rw [IntKind.wrap_i64]
  omega

theorem at_val (c d : Int) (i len n : Nat) (hc0 : 0 ≤ c) (hc1 : c < 256) (hd0 : 0 ≤ d) (hd1 : d < 256) (hi : i ≤ 1000) (hn : 2 ≤ n) :
    ∃ v : Nat, v < n ∧ (IntKind.i64.wrap (IntKind.i64.wrap (IntKind.i64.wrap (IntKind.i64.wrap c * 31) + IntKind.i64.wrap d) + IntKind.i64.wrap ((i : Int) / (len : Int)))).tmod (n : Int) = (v : Int) := by
  have hq : (i : Int) / (len : Int) = ((i / len : Nat) : Int) := by simp
  have hq1 := Nat.div_le_self i len
  rw [hq]
  generalize i / len = q at *
  rw [wrap_i64_in c (by omega) (by omega), wrap_i64_in (c * 31) (by omega) (by omega), wrap_i64_in d (by omega) (by omega), wrap_i64_in (c * 31 + d) (by omega) (by omega), wrap_i64_in (q : Int) (by omega) (by omega), wrap_i64_in (c * 31 + d + q) (by omega) (by omega)]
  rw [Int.tmod_eq_emod_of_nonneg (by omega)]
  have h0 := Int.emod_nonneg (c * 31 + d + (q : Int)) (show (n : Int) ≠ 0 by omega)
  have h1 := Int.emod_lt_of_pos (c * 31 + d + (q : Int)) (show (0 : Int) < (n : Int) by omega)
  generalize (c * 31 + d + (q : Int)) % (n : Int) = r at *
  exact ⟨r.toNat, by omega, by omega⟩

theorem source_any (len cap : Nat) (a : Option Addr) (w : World) (hl : len ≤ maxLen) :
    Calls Try.prog 20 #[.slice a len cap] w fun e w' => ∃ sd : Int, e = .returned (.pointer (some ⟨w.heap.size, 0, none⟩)) ∧ Src w' w.heap.size a len cap (0 : Nat) sd ∧ Below w.heap.size w w' ∧ w.heap.size < w'.heap.size := by
  unfold maxLen at hl
  go_enter Try.func20, Try.ntmps20
  go_wp2
  go_ret
  exact ⟨(len : Int) % 1000, rfl, ⟨by simp, by simp, by simp, by simp, by simp, by simp, by omega, by omega, by omega⟩, (Below.refl _ _).alloc (Nat.le_refl _) _, by simp⟩

set_option maxRecDepth 100000 in
set_option maxHeartbeats 1000000 in
theorem at_nat (len cap B i n : Nat) (a : Option Addr) (w : World) (hi : i ≤ 1000) (hn1 : 2 ≤ n) (hn : n ≤ 1000000) (h0 : 0 < len) (hB : Bytes w B a len) :
    Calls Try.prog 7 #[.slice a len cap, .int .i64 i, .int .i64 n] w fun e w' => ∃ v : Nat, v < n ∧ e = .returned (.int .i64 v) ∧ Below w.heap.size w w' := by
  have hl := hB.1
  unfold maxLen at hl
  obtain ⟨bx, off, c, rfl, hbx, hc0, hc1, hc⟩ := hB.2 (i % len) (Nat.mod_lt _ h0)
  obtain ⟨bx', off', d, he, hbx', hd0, hd1, hd⟩ := hB.2 ((i + 1) % len) (Nat.mod_lt _ h0)
  simp only [Option.some.injEq, Addr.mk.injEq] at he
  obtain ⟨rfl, rfl, _⟩ := he
  have hm := Nat.mod_lt i h0
  have hm' := Nat.mod_lt (i + 1) h0
  have e1 : (i : Int) % (len : Int) = ((i % len : Nat) : Int) := by simp
  have e2 : ((i : Int) + 1) % (len : Int) = (((i + 1) % len : Nat) : Int) := by simp
  generalize i % len = j at *
  generalize (i + 1) % len = j' at *
  have t1 : (i : Int).tmod (len : Int) = (j : Int) := by rw [Int.tmod_eq_emod_of_nonneg (by omega)]; exact e1
  have t2 : ((i : Int) + 1).tmod (len : Int) = (j' : Int) := by rw [Int.tmod_eq_emod_of_nonneg (by omega)]; exact e2
  have hj0 : (0 : Int) ≤ (j : Int) := by omega
  have hj1 : (j : Int) < (len : Int) := by omega
  have hk0 : (0 : Int) ≤ (j' : Int) := by omega
  have hk1 : (j' : Int) < (len : Int) := by omega
  have hz : ((len : Int) == 0) = false := by simp; omega
  have ew := wrap_i64_in ((i : Int) + 1) (by omega) (by omega)
  have hlz : ¬ len = 0 := by omega
  have hnz : ¬ n = 0 := by omega
  clear hB
  go_enter Try.func7, Try.ntmps7
  go_wp2_with fail
  go_region_held3 (fun w' => w'.cell? ⟨bx, off + j, none⟩ = some (.int .u8 c) ∧ w'.cell? ⟨bx, off + j', none⟩ = some (.int .u8 d)) (go_keep) (fail)
  obtain ⟨v, hv, hval⟩ := at_val c d i len n hc0 hc1 hd0 hd1 hi hn1
  go_wp2
  go_ret
  exact ⟨v, hv, congrArg (fun x => Ending.returned (.int .i64 x)) hval, by repeat (first | exact Below.refl _ _ | refine Below.drew ?_)⟩

theorem at_empty (cap i n : Nat) (a : Option Addr) (w : World) (hi : i ≤ 1000) (hn1 : 2 ≤ n) (hn : n ≤ 1000000) :
    Calls Try.prog 7 #[.slice a 0 cap, .int .i64 i, .int .i64 n] w fun e w' => ∃ v : Nat, v < n ∧ e = .returned (.int .i64 v) ∧ Below w.heap.size w w' := by
  have hnz : ¬ n = 0 := by omega
  go_enter Try.func7, Try.ntmps7
  go_wp2
  go_ret
  have h0 := Int.emod_nonneg ((i : Int) * 7) (show (n : Int) ≠ 0 by omega)
  have h1 := Int.emod_lt_of_pos ((i : Int) * 7) (show (0 : Int) < (n : Int) by omega)
  exact ⟨(((i : Int) * 7) % (n : Int)).toNat, by omega, congrArg (fun x => Ending.returned (.int .i64 x)) (Int.toNat_of_nonneg h0).symm, Below.refl _ _⟩

theorem at_one (cap len i n : Nat) (a : Option Addr) (w : World) (hn1 : n ≤ 1) :
    Calls Try.prog 7 #[.slice a len cap, .int .i64 i, .int .i64 n] w fun e w' => e = .returned (.int .i64 (0 : Nat)) ∧ Below w.heap.size w w' := by
  go_enter Try.func7, Try.ntmps7
  go_wp2
  go_ret
  exact ⟨rfl, Below.refl _ _⟩

/-- A choice out of n is one of them (the first one where n is below 2). -/
theorem at_any (len cap B : Nat) (i n : Int) (a : Option Addr) (w : World) (hi0 : 0 ≤ i) (hi : i ≤ 1000) (hn0 : 0 ≤ n) (hn : n ≤ 1000000) (hB : Bytes w B a len) :
    Calls Try.prog 7 #[.slice a len cap, .int .i64 i, .int .i64 n] w fun e w' => ∃ v : Nat, (v : Int) < max n 1 ∧ e = .returned (.int .i64 v) ∧ Below w.heap.size w w' := by
  obtain ⟨i, rfl⟩ := Int.eq_ofNat_of_zero_le hi0
  obtain ⟨n, rfl⟩ := Int.eq_ofNat_of_zero_le hn0
  by_cases h1 : n ≤ 1
  · exact (at_one cap len i n a w h1).mono fun e w' ⟨he, hb⟩ => ⟨0, by omega, he, hb⟩
  · by_cases h0 : len = 0
    · subst h0
      exact (at_empty cap i n a w (by omega) (by omega) (by omega)).mono fun e w' ⟨v, hv, he, hb⟩ => ⟨v, by omega, he, hb⟩
    · exact (at_nat len cap B i n a w (by omega) (by omega) (by omega) (by omega) hB).mono fun e w' ⟨v, hv, he, hb⟩ => ⟨v, by omega, he, hb⟩

end Go.Proofs.Ytibepggakjfbcaa
