/- An instruction's word, by the model: form 9. Encode of the model: the contract. Which word is an instruction of which shape: plain (3). Which word is an instruction of which shape: plain (4). -/
import Derived.Test.YtiandbhcjecphaaGreatDoorGLShape15
import Derived.Test.YtiandbhcjecphaaGreatDoorGLShape16
import Derived.Test.YtiandbhcjecphaaGreatDoorGLShape17
import Derived.Test.YtiandbhcjecphaaGreatDoorGLShape9
namespace Go.Proofs.YtiandbhcjecphaaGreatDoor
open Go.RowKit
set_option linter.unusedVariables false

set_option maxRecDepth 100000 in
set_option maxHeartbeats 8000000 in
theorem ens9 (op  im c g h : Int) (hs : Hid (shT op = (9, c, g, h))) (k0 : 0 ≤ c) (k1 : c < 128) (g0 : 0 ≤ g) (g1 : g < 8) (h0 : 0 ≤ h) (h1 : h < 64)  (sg : g = 0) (w : World) :
    Calls Tryz.prog 93 #[.agg #[.int .i64 op, .int .i64 0, .int .i64 0, .int .i64 0, .int .i64 im]] w fun e w' => e = .returned (.int .i64 (encW 9 c g h 0 0 0 im)) ∧ Below w.heap.size w w' := by
  subst sg
  go_enter Tryz.func93, Tryz.ntmps93
  go_wp2_with fail
  refine (specShs op 9 c 0 h _ hs.out).mono ?_
  rintro e w1 ⟨rfl, hb1⟩
  obtain ⟨hc1, hf1⟩ := bcell hb1
  have hz1 : w.heap.size < w1.heap.size := by have := hb1.size; simp at this; omega
  have HB1 : Hid (Below w.heap.size w w1) := ((Below.refl _ _).alloc (Nat.le_refl _) _).trans (hb1.mono (by simp))
  clear hs hb1
  go_wp2_with fail
  refine (putN (c) h (c + h * 1048576) 20 12 20 12 1048576 4096 _ rfl rfl (by decide) (by decide) (by omega) (by omega) (by decide) (by omega) (by omega)).mono ?_
  rintro e w2 ⟨rfl, rfl⟩
  go_wp2
  go_ret
  refine ⟨congrArg (fun x => Ending.returned (.int .i64 x)) ?_, HB1.out.alloc (by omega) _⟩
  show c + h * 1048576 = fixW 9 c 0 h + 0 * 128 + 0 * 32768 + 0 * 1048576 + layF 9 im
  have l : layF 9 im = 0 := rfl
  have e : fixW 9 c 0 h = c + 0 * 4096 + h * 1048576 := rfl
  rw [l, e]
  omega
end Go.Proofs.YtiandbhcjecphaaGreatDoor

namespace Go.Proofs.YtiandbhcjecphaaGreatDoor
open Go.RowKit
set_option linter.unusedVariables false

theorem sh_more {f c g h : Int} (hs : shOK f c g h = true) : (f = 1 → g = 0 ∧ h = 0) ∧ (f = 2 → g = 0 ∧ h = 0) ∧ (f = 3 → h = 0) ∧ (f = 4 → h = 0) ∧ (f = 5 → h = 0) ∧ (f = 9 → g = 0) := by
  simp only [shOK, Bool.and_eq_true, Bool.or_eq_true, decide_eq_true_eq] at hs
  obtain ⟨⟨⟨⟨⟨⟨⟨⟨⟨⟨⟨⟨⟨f0, f1⟩, k0⟩, k1⟩, g0⟩, g1⟩, h0⟩, h1⟩, s1⟩, s2⟩, s3⟩, s4⟩, s5⟩, s9⟩ := hs
  exact ⟨by omega, by omega, by omega, by omega, by omega, by omega⟩

theorem specEncYes (op rd r1 r2 im f c g h : Int) (w : World) (hr : rightB op rd r1 r2 im = true) (hs : shT op = (f, c, g, h)) :
    Calls Tryz.prog 93 #[.agg #[.int .i64 op, .int .i64 rd, .int .i64 r1, .int .i64 r2, .int .i64 im]] w fun e w' => e = .returned (.int .i64 (encW f c g h rd r1 r2 im)) ∧ Below w.heap.size w w' := by
  have hop : 1 ≤ op ∧ op ≤ 64 := by
    unfold rightB at hr
    exact of_decide_eq_true (Bool.and_eq_true_iff.1 hr).1
  have hf : rightF f rd r1 r2 im = true := by
    unfold rightB at hr
    have := (Bool.and_eq_true_iff.1 hr).2
    rw [hs] at this
    exact this
  have hok : shOK f c g h = true := by
    have := shT_ok op hop.1 hop.2
    rw [hs] at this
    exact this
  have h6 : f = 6 → h % 2 = 0 := by
    have := sh6 op hop.1 hop.2
    rw [hs] at this
    exact this
  obtain ⟨f0, f1, k0, k1, g0, g1, h0, h1⟩ := sh_bounds hok
  obtain ⟨m1, m2, m3, m4, m5, m9⟩ := sh_more hok
  obtain ⟨⟨b1, b2, b3⟩, z1, z2, z3⟩ := right_parts f0 f1 hf
  obtain ⟨rd0, rd1⟩ := regB_bd b1
  obtain ⟨r10, r11⟩ := regB_bd b2
  obtain ⟨r20, r21⟩ := regB_bd b3
  rcases (show f = 1 ∨ f = 2 ∨ f = 3 ∨ f = 4 ∨ f = 5 ∨ f = 6 ∨ f = 7 ∨ f = 8 ∨ f = 9 by omega) with rfl | rfl | rfl | rfl | rfl | rfl | rfl | rfl | rfl
  · obtain rfl := z2 (by omega)
    obtain rfl := z3 (by omega)
    have hk : okB 1 im = true := by
      have : (regB rd && (0 : Int) == 0 && (0 : Int) == 0 && okB 1 im) = true := hf
      simpa using (Bool.and_eq_true_iff.1 this).2
    have ho : -2147483648 ≤ im ∧ im ≤ 2147479552 ∧ im % 4096 = 0 := (okB_iff 1 im (by decide) (by decide)).1 hk
    exact ens1 op rd im c g h hs k0 k1 g0 g1 h0 h1 rd0 rd1 ho.1 (by omega) ho.2.2 (m1 rfl).1 (m1 rfl).2 w
  · obtain rfl := z2 (by omega)
    obtain rfl := z3 (by omega)
    exact ens2 op rd im c g h hs k0 k1 g0 g1 h0 h1 rd0 rd1 (m2 rfl).1 (m2 rfl).2 w
  · obtain rfl := z3 (by omega)
    exact ens3 op rd r1 im c g h hs k0 k1 g0 g1 h0 h1 rd0 rd1 r10 r11 (m3 rfl) w
  · obtain rfl := z1 (by omega)
    exact ens4 op r1 r2 im c g h hs k0 k1 g0 g1 h0 h1 r10 r11 r20 r21 (m4 rfl) w
  · obtain rfl := z1 (by omega)
    exact ens5 op r1 r2 im c g h hs k0 k1 g0 g1 h0 h1 r10 r11 r20 r21 (m5 rfl) w
  · obtain rfl := z3 (by omega)
    exact ens6 op rd r1 im c g h hs k0 k1 g0 g1 h0 h1 rd0 rd1 r10 r11 (h6 rfl) w
  · obtain rfl := z3 (by omega)
    exact ens7 op rd r1 im c g h hs k0 k1 g0 g1 h0 h1 rd0 rd1 r10 r11 w
  · exact ens8 op rd r1 r2 im c g h hs k0 k1 g0 g1 h0 h1 rd0 rd1 r10 r11 r20 r21 w
  · obtain rfl := z1 (by omega)
    obtain rfl := z2 (by omega)
    obtain rfl := z3 (by omega)
    exact ens9 op im c g h hs k0 k1 g0 g1 h0 h1 (m9 rfl) w

/-- The word of an instruction, 0 of what is none; the code. -/
def encT (op rd r1 r2 im : Int) : Int := if rightB op rd r1 r2 im = true then encW (shT op).1 (shT op).2.1 (shT op).2.2.1 (shT op).2.2.2 rd r1 r2 im else 0
def encE (op rd r1 r2 im : Int) : Int := if rightB op rd r1 r2 im = true then 0 else 1

theorem implEnc (op rd r1 r2 im : Int) (w : World) (hl : Laid w) :
    Calls Tryz.prog 21 #[.agg #[.int .i64 op, .int .i64 rd, .int .i64 r1, .int .i64 r2, .int .i64 im]] w fun e w' => e = .returned (.tuple #[.int .i64 (encT op rd r1 r2 im), .int .i64 (encE op rd r1 r2 im)]) ∧ Below w.heap.size w w' := by
  unfold encT encE
  cases hr : rightB op rd r1 r2 im with
  | true =>
    rw [if_pos rfl, if_pos rfl]
    exact encYes op rd r1 r2 im _ _ _ _ w hl hr rfl
  | false =>
    rw [if_neg (by decide), if_neg (by decide)]
    exact encNo op rd r1 r2 im w hl hr

end Go.Proofs.YtiandbhcjecphaaGreatDoor

namespace Go.Proofs.YtiandbhcjecphaaGreatDoor
set_option linter.unusedVariables false

set_option maxHeartbeats 1000000 in
theorem fix_hit (f c g h w : Int) (hs : shOK f c g h = true) (w0 : 0 ≤ w) (w1 : w < 4294967296) : bits .and .i64 w (fixB f) = fixW f c g h ↔ hitI f c g h w := by
  obtain ⟨f0, f1, k0, k1, g0, g1, h0, h1⟩ := sh_bounds hs
  obtain ⟨m1, m2, m3, m4, m5, m9⟩ := sh_more hs
  obtain ⟨n, rfl⟩ := Int.eq_ofNat_of_zero_le w0
  have hn : n < 4294967296 := by omega
  rcases (show f = 1 ∨ f = 2 ∨ f = 3 ∨ f = 4 ∨ f = 5 ∨ f = 6 ∨ f = 7 ∨ f = 8 ∨ f = 9 by omega) with rfl | rfl | rfl | rfl | rfl | rfl | rfl | rfl | rfl
  · obtain ⟨rfl, rfl⟩ := m1 rfl
    show bits .and .i64 (n : Int) 127 = c + 0 * 4096 + 0 * 33554432 ↔ (n : Int) % 128 = c
    rw [and_127 n hn]
    omega
  · obtain ⟨rfl, rfl⟩ := m2 rfl
    show bits .and .i64 (n : Int) 127 = c + 0 * 4096 + 0 * 33554432 ↔ (n : Int) % 128 = c
    rw [and_127 n hn]
    omega
  · obtain rfl := m3 rfl
    show bits .and .i64 (n : Int) 28799 = c + g * 4096 + 0 * 33554432 ↔ (n : Int) % 128 = c ∧ (n : Int) / 4096 % 8 = g
    rw [and_28799 n hn]
    omega
  · obtain rfl := m4 rfl
    show bits .and .i64 (n : Int) 28799 = c + g * 4096 + 0 * 33554432 ↔ (n : Int) % 128 = c ∧ (n : Int) / 4096 % 8 = g
    rw [and_28799 n hn]
    omega
  · obtain rfl := m5 rfl
    show bits .and .i64 (n : Int) 28799 = c + g * 4096 + 0 * 33554432 ↔ (n : Int) % 128 = c ∧ (n : Int) / 4096 % 8 = g
    rw [and_28799 n hn]
    omega
  · show bits .and .i64 (n : Int) 4227887231 = c + g * 4096 + h / 2 * 67108864 ↔ (n : Int) % 128 = c ∧ (n : Int) / 4096 % 8 = g ∧ (n : Int) / 67108864 = h / 2
    rw [and_4227887231 n hn]
    have e : ((n % 128 + n / 4096 % 8 * 4096 + n / 67108864 * 67108864 : Nat) : Int) = (n : Int) % 128 + (n : Int) / 4096 % 8 * 4096 + (n : Int) / 67108864 * 67108864 := by omega
    rw [e]
    have p : 0 ≤ (n : Int) % 128 ∧ (n : Int) % 128 < 128 := by omega
    have q : 0 ≤ (n : Int) / 4096 % 8 ∧ (n : Int) / 4096 % 8 < 8 := by omega
    have r : 0 ≤ h / 2 := by omega
    generalize (n : Int) % 128 = x at *
    generalize (n : Int) / 4096 % 8 = y at *
    generalize (n : Int) / 67108864 = z at *
    generalize h / 2 = u at *
    omega
  · show bits .and .i64 (n : Int) 4261441663 = c + g * 4096 + h * 33554432 ↔ (n : Int) % 128 = c ∧ (n : Int) / 4096 % 8 = g ∧ (n : Int) / 33554432 = h
    rw [and_4261441663 n hn]
    have e : ((n % 128 + n / 4096 % 8 * 4096 + n / 33554432 * 33554432 : Nat) : Int) = (n : Int) % 128 + (n : Int) / 4096 % 8 * 4096 + (n : Int) / 33554432 * 33554432 := by omega
    rw [e]
    have p : 0 ≤ (n : Int) % 128 ∧ (n : Int) % 128 < 128 := by omega
    have q : 0 ≤ (n : Int) / 4096 % 8 ∧ (n : Int) / 4096 % 8 < 8 := by omega
    generalize (n : Int) % 128 = x at *
    generalize (n : Int) / 4096 % 8 = y at *
    generalize (n : Int) / 33554432 = z at *
    omega
  · show bits .and .i64 (n : Int) 4261441663 = c + g * 4096 + h * 33554432 ↔ (n : Int) % 128 = c ∧ (n : Int) / 4096 % 8 = g ∧ (n : Int) / 33554432 = h
    rw [and_4261441663 n hn]
    have e : ((n % 128 + n / 4096 % 8 * 4096 + n / 33554432 * 33554432 : Nat) : Int) = (n : Int) % 128 + (n : Int) / 4096 % 8 * 4096 + (n : Int) / 33554432 * 33554432 := by omega
    rw [e]
    have p : 0 ≤ (n : Int) % 128 ∧ (n : Int) % 128 < 128 := by omega
    have q : 0 ≤ (n : Int) / 4096 % 8 ∧ (n : Int) / 4096 % 8 < 8 := by omega
    generalize (n : Int) % 128 = x at *
    generalize (n : Int) / 4096 % 8 = y at *
    generalize (n : Int) / 33554432 = z at *
    omega
  · show bits .and .i64 (n : Int) 4294967295 = c + g * 4096 + h * 1048576 ↔ (n : Int) = c + g * 4096 + h * 1048576
    rw [and_all n hn]

theorem lay_take2 (a b c d : Int) (ha : 0 ≤ a ∧ a < 256) (hb : 0 ≤ b ∧ b < 2) (hc : 0 ≤ c ∧ c < 1024) (hd : 0 ≤ d ∧ d < 2) :
    layF 2 (sgn (a * 4096 + b * 2048 + c * 2 + d * 1048576) 21) = a * 4096 + b * 1048576 + c * 2097152 + d * 2147483648 := by
  rw [sgn_num _ 21 1048576 2097152 (by decide) (by decide)]
  have e : (a * 4096 + b * 2048 + c * 2 + d * 1048576 + 1048576) % 2097152 - 1048576 = a * 4096 + b * 2048 + c * 2 - d * 1048576 := by
    rcases (show d = 0 ∨ d = 1 by omega) with rfl | rfl <;> omega
  rw [e]
  generalize hv : a * 4096 + b * 2048 + c * 2 - d * 1048576 = v
  show v / 4096 % 256 * 4096 + v / 2048 % 2 * 1048576 + v / 2 % 1024 * 2097152 + v / 1048576 % 2 * 2147483648 = _
  have e1 : v / 4096 = a - 256 * d := by omega
  have e2 : v / 2048 = a * 2 + b - 512 * d := by omega
  have e3 : v / 2 = a * 2048 + b * 1024 + c - 524288 * d := by omega
  have e4 : v / 1048576 = -d := by omega
  rw [e1, e2, e3, e4]
  have p1 : (a - 256 * d) % 256 = a := by omega
  have p2 : (a * 2 + b - 512 * d) % 2 = b := by omega
  have p3 : (a * 2048 + b * 1024 + c - 524288 * d) % 1024 = c := by omega
  have p4 : (-d) % 2 = d := by omega
  rw [p1, p2, p3, p4]
theorem lay_take4 (a b c d : Int) (ha : 0 ≤ a ∧ a < 2) (hb : 0 ≤ b ∧ b < 16) (hc : 0 ≤ c ∧ c < 64) (hd : 0 ≤ d ∧ d < 2) :
    layF 4 (sgn (a * 2048 + b * 2 + c * 32 + d * 4096) 13) = a * 128 + b * 256 + c * 33554432 + d * 2147483648 := by
  rw [sgn_num _ 13 4096 8192 (by decide) (by decide)]
  have e : (a * 2048 + b * 2 + c * 32 + d * 4096 + 4096) % 8192 - 4096 = a * 2048 + b * 2 + c * 32 - d * 4096 := by
    rcases (show d = 0 ∨ d = 1 by omega) with rfl | rfl <;> omega
  rw [e]
  generalize hv : a * 2048 + b * 2 + c * 32 - d * 4096 = v
  show v / 2048 % 2 * 128 + v / 2 % 16 * 256 + v / 32 % 64 * 33554432 + v / 4096 % 2 * 2147483648 = _
  have e1 : v / 2048 = a - 2 * d := by omega
  have e2 : v / 2 = a * 1024 + b + c * 16 - 2048 * d := by omega
  have e3 : v / 32 = a * 64 + c - 128 * d := by omega
  have e4 : v / 4096 = -d := by omega
  rw [e1, e2, e3, e4]
  have p1 : (a - 2 * d) % 2 = a := by omega
  have p2 : (a * 1024 + b + c * 16 - 2048 * d) % 16 = b := by omega
  have p3 : (a * 64 + c - 128 * d) % 64 = c := by omega
  have p4 : (-d) % 2 = d := by omega
  rw [p1, p2, p3, p4]
theorem lay_take5 (a c : Int) (ha : 0 ≤ a ∧ a < 32) (hc : 0 ≤ c ∧ c < 128) : layF 5 (sgn (a + c * 32) 12) = a * 128 + c * 33554432 := by
  rw [sgn_num _ 12 2048 4096 (by decide) (by decide)]
  generalize hv : (a + c * 32 + 2048) % 4096 - 2048 = v
  show v % 32 * 128 + v / 32 % 128 * 33554432 = _
  have p1 : v % 32 = a := by omega
  have p2 : v / 32 % 128 = c := by omega
  rw [p1, p2]
end Go.Proofs.YtiandbhcjecphaaGreatDoor

namespace Go.Proofs.YtiandbhcjecphaaGreatDoor
set_option linter.unusedVariables false

theorem chain (w : Int) (a b : Nat) (A B C : Int) (hA : A = 2 ^ a) (hB : B = 2 ^ b) (hC : C = 2 ^ (a + b)) : w / A = w / A % B + B * (w / C) := by
  have h := Int.emod_add_mul_ediv (w / A) B
  have e : w / A / B = w / C := by
    rw [hA, hB, hC, dd _ _ (Int.le_of_lt (pow_pos a)), ← Int.pow_add]
  rw [e] at h
  exact h.symm

theorem hit1 (c w : Int) (w0 : 0 ≤ w) (w1 : w < 4294967296) : (w % 128 = c ∧ encW 1 c 0 0 (w / 128 % 32) (0) (0) (takeF 1 w) = w) ↔ (w % 128 = c) := by
  have l : layF 1 (takeF 1 w) = w / 4096 % 1048576 * 4096 := by
    show sgn (w / 4096 % 1048576 * 4096) 32 / 4096 % 1048576 * 4096 = _
    rw [sgn_num _ 32 2147483648 4294967296 (by decide) (by decide)]
    omega
  have e : encW 1 c 0 0 (w / 128 % 32) (0) (0) (takeF 1 w) = c + 0 * 4096 + 0 * 33554432 + w / 128 % 32 * 128 + 0 * 32768 + 0 * 1048576 + (w / 4096 % 1048576 * 4096) := by
    rw [← l]
    rfl
  rw [e]
  clear e l
  have d0 : w = w % 128 + 128 * (w / 128) := by omega
  have p0 : 0 ≤ w % 128 ∧ w % 128 < 128 := by omega
  have d7 : w / 128 = w / 128 % 32 + 32 * (w / 4096) := chain w 7 5 128 32 4096 (by decide) (by decide) (by decide)
  have p7 : 0 ≤ w / 128 % 32 ∧ w / 128 % 32 < 32 := by omega
  have d12 : w / 4096 = w / 4096 % 1048576 := by omega
  have p12 : 0 ≤ w / 4096 % 1048576 ∧ w / 4096 % 1048576 < 1048576 := by omega
  generalize w % 128 = x0 at *
  generalize w / 128 % 32 = x7 at *
  generalize w / 4096 % 1048576 = x12 at *
  generalize w / 128 = q7 at *
  generalize w / 4096 = q12 at *
  omega
theorem hit2 (c w : Int) (w0 : 0 ≤ w) (w1 : w < 4294967296) : (w % 128 = c ∧ encW 2 c 0 0 (w / 128 % 32) (0) (0) (takeF 2 w) = w) ↔ (w % 128 = c) := by
  have l : layF 2 (takeF 2 w) = w / 4096 % 256 * 4096 + w / 1048576 % 2 * 1048576 + w / 2097152 % 1024 * 2097152 + w / 2147483648 % 2 * 2147483648 :=
    lay_take2 (w / 4096 % 256) (w / 1048576 % 2) (w / 2097152 % 1024) (w / 2147483648 % 2) (by omega) (by omega) (by omega) (by omega)
  have e : encW 2 c 0 0 (w / 128 % 32) (0) (0) (takeF 2 w) = c + 0 * 4096 + 0 * 33554432 + w / 128 % 32 * 128 + 0 * 32768 + 0 * 1048576 + (w / 4096 % 256 * 4096 + w / 1048576 % 2 * 1048576 + w / 2097152 % 1024 * 2097152 + w / 2147483648 % 2 * 2147483648) := by
    rw [← l]
    rfl
  rw [e]
  clear e l
  have d0 : w = w % 128 + 128 * (w / 128) := by omega
  have p0 : 0 ≤ w % 128 ∧ w % 128 < 128 := by omega
  have d7 : w / 128 = w / 128 % 32 + 32 * (w / 4096) := chain w 7 5 128 32 4096 (by decide) (by decide) (by decide)
  have p7 : 0 ≤ w / 128 % 32 ∧ w / 128 % 32 < 32 := by omega
  have d12 : w / 4096 = w / 4096 % 256 + 256 * (w / 1048576) := chain w 12 8 4096 256 1048576 (by decide) (by decide) (by decide)
  have p12 : 0 ≤ w / 4096 % 256 ∧ w / 4096 % 256 < 256 := by omega
  have d20 : w / 1048576 = w / 1048576 % 2 + 2 * (w / 2097152) := chain w 20 1 1048576 2 2097152 (by decide) (by decide) (by decide)
  have p20 : 0 ≤ w / 1048576 % 2 ∧ w / 1048576 % 2 < 2 := by omega
  have d21 : w / 2097152 = w / 2097152 % 1024 + 1024 * (w / 2147483648) := chain w 21 10 2097152 1024 2147483648 (by decide) (by decide) (by decide)
  have p21 : 0 ≤ w / 2097152 % 1024 ∧ w / 2097152 % 1024 < 1024 := by omega
  have d31 : w / 2147483648 = w / 2147483648 % 2 := by omega
  have p31 : 0 ≤ w / 2147483648 % 2 ∧ w / 2147483648 % 2 < 2 := by omega
  generalize w % 128 = x0 at *
  generalize w / 128 % 32 = x7 at *
  generalize w / 4096 % 256 = x12 at *
  generalize w / 1048576 % 2 = x20 at *
  generalize w / 2097152 % 1024 = x21 at *
  generalize w / 2147483648 % 2 = x31 at *
  generalize w / 128 = q7 at *
  generalize w / 4096 = q12 at *
  generalize w / 1048576 = q20 at *
  generalize w / 2097152 = q21 at *
  generalize w / 2147483648 = q31 at *
  omega
theorem hit3 (c g w : Int) (w0 : 0 ≤ w) (w1 : w < 4294967296) : (w % 128 = c ∧ w / 4096 % 8 = g ∧ encW 3 c g 0 (w / 128 % 32) (w / 32768 % 32) (0) (takeF 3 w) = w) ↔ (w % 128 = c ∧ w / 4096 % 8 = g) := by
  have l : layF 3 (takeF 3 w) = w / 1048576 % 4096 * 1048576 := by
    show sgn (w / 1048576 % 4096) 12 % 4096 * 1048576 = _
    rw [sgn_num _ 12 2048 4096 (by decide) (by decide)]
    omega
  have e : encW 3 c g 0 (w / 128 % 32) (w / 32768 % 32) (0) (takeF 3 w) = c + g * 4096 + 0 * 33554432 + w / 128 % 32 * 128 + w / 32768 % 32 * 32768 + 0 * 1048576 + (w / 1048576 % 4096 * 1048576) := by
    rw [← l]
    rfl
  rw [e]
  clear e l
  have d0 : w = w % 128 + 128 * (w / 128) := by omega
  have p0 : 0 ≤ w % 128 ∧ w % 128 < 128 := by omega
  have d7 : w / 128 = w / 128 % 32 + 32 * (w / 4096) := chain w 7 5 128 32 4096 (by decide) (by decide) (by decide)
  have p7 : 0 ≤ w / 128 % 32 ∧ w / 128 % 32 < 32 := by omega
  have d12 : w / 4096 = w / 4096 % 8 + 8 * (w / 32768) := chain w 12 3 4096 8 32768 (by decide) (by decide) (by decide)
  have p12 : 0 ≤ w / 4096 % 8 ∧ w / 4096 % 8 < 8 := by omega
  have d15 : w / 32768 = w / 32768 % 32 + 32 * (w / 1048576) := chain w 15 5 32768 32 1048576 (by decide) (by decide) (by decide)
  have p15 : 0 ≤ w / 32768 % 32 ∧ w / 32768 % 32 < 32 := by omega
  have d20 : w / 1048576 = w / 1048576 % 4096 := by omega
  have p20 : 0 ≤ w / 1048576 % 4096 ∧ w / 1048576 % 4096 < 4096 := by omega
  generalize w % 128 = x0 at *
  generalize w / 128 % 32 = x7 at *
  generalize w / 4096 % 8 = x12 at *
  generalize w / 32768 % 32 = x15 at *
  generalize w / 1048576 % 4096 = x20 at *
  generalize w / 128 = q7 at *
  generalize w / 4096 = q12 at *
  generalize w / 32768 = q15 at *
  generalize w / 1048576 = q20 at *
  omega
theorem hit4 (c g w : Int) (w0 : 0 ≤ w) (w1 : w < 4294967296) : (w % 128 = c ∧ w / 4096 % 8 = g ∧ encW 4 c g 0 (0) (w / 32768 % 32) (w / 1048576 % 32) (takeF 4 w) = w) ↔ (w % 128 = c ∧ w / 4096 % 8 = g) := by
  have l : layF 4 (takeF 4 w) = w / 128 % 2 * 128 + w / 256 % 16 * 256 + w / 33554432 % 64 * 33554432 + w / 2147483648 % 2 * 2147483648 :=
    lay_take4 (w / 128 % 2) (w / 256 % 16) (w / 33554432 % 64) (w / 2147483648 % 2) (by omega) (by omega) (by omega) (by omega)
  have e : encW 4 c g 0 (0) (w / 32768 % 32) (w / 1048576 % 32) (takeF 4 w) = c + g * 4096 + 0 * 33554432 + 0 * 128 + w / 32768 % 32 * 32768 + w / 1048576 % 32 * 1048576 + (w / 128 % 2 * 128 + w / 256 % 16 * 256 + w / 33554432 % 64 * 33554432 + w / 2147483648 % 2 * 2147483648) := by
    rw [← l]
    rfl
  rw [e]
  clear e l
  have d0 : w = w % 128 + 128 * (w / 128) := by omega
  have p0 : 0 ≤ w % 128 ∧ w % 128 < 128 := by omega
  have d7 : w / 128 = w / 128 % 2 + 2 * (w / 256) := chain w 7 1 128 2 256 (by decide) (by decide) (by decide)
  have p7 : 0 ≤ w / 128 % 2 ∧ w / 128 % 2 < 2 := by omega
  have d8 : w / 256 = w / 256 % 16 + 16 * (w / 4096) := chain w 8 4 256 16 4096 (by decide) (by decide) (by decide)
  have p8 : 0 ≤ w / 256 % 16 ∧ w / 256 % 16 < 16 := by omega
  have d12 : w / 4096 = w / 4096 % 8 + 8 * (w / 32768) := chain w 12 3 4096 8 32768 (by decide) (by decide) (by decide)
  have p12 : 0 ≤ w / 4096 % 8 ∧ w / 4096 % 8 < 8 := by omega
  have d15 : w / 32768 = w / 32768 % 32 + 32 * (w / 1048576) := chain w 15 5 32768 32 1048576 (by decide) (by decide) (by decide)
  have p15 : 0 ≤ w / 32768 % 32 ∧ w / 32768 % 32 < 32 := by omega
  have d20 : w / 1048576 = w / 1048576 % 32 + 32 * (w / 33554432) := chain w 20 5 1048576 32 33554432 (by decide) (by decide) (by decide)
  have p20 : 0 ≤ w / 1048576 % 32 ∧ w / 1048576 % 32 < 32 := by omega
  have d25 : w / 33554432 = w / 33554432 % 64 + 64 * (w / 2147483648) := chain w 25 6 33554432 64 2147483648 (by decide) (by decide) (by decide)
  have p25 : 0 ≤ w / 33554432 % 64 ∧ w / 33554432 % 64 < 64 := by omega
  have d31 : w / 2147483648 = w / 2147483648 % 2 := by omega
  have p31 : 0 ≤ w / 2147483648 % 2 ∧ w / 2147483648 % 2 < 2 := by omega
  generalize w % 128 = x0 at *
  generalize w / 128 % 2 = x7 at *
  generalize w / 256 % 16 = x8 at *
  generalize w / 4096 % 8 = x12 at *
  generalize w / 32768 % 32 = x15 at *
  generalize w / 1048576 % 32 = x20 at *
  generalize w / 33554432 % 64 = x25 at *
  generalize w / 2147483648 % 2 = x31 at *
  generalize w / 128 = q7 at *
  generalize w / 256 = q8 at *
  generalize w / 4096 = q12 at *
  generalize w / 32768 = q15 at *
  generalize w / 1048576 = q20 at *
  generalize w / 33554432 = q25 at *
  generalize w / 2147483648 = q31 at *
  omega
theorem hit5 (c g w : Int) (w0 : 0 ≤ w) (w1 : w < 4294967296) : (w % 128 = c ∧ w / 4096 % 8 = g ∧ encW 5 c g 0 (0) (w / 32768 % 32) (w / 1048576 % 32) (takeF 5 w) = w) ↔ (w % 128 = c ∧ w / 4096 % 8 = g) := by
  have l : layF 5 (takeF 5 w) = w / 128 % 32 * 128 + w / 33554432 % 128 * 33554432 := lay_take5 (w / 128 % 32) (w / 33554432 % 128) (by omega) (by omega)
  have e : encW 5 c g 0 (0) (w / 32768 % 32) (w / 1048576 % 32) (takeF 5 w) = c + g * 4096 + 0 * 33554432 + 0 * 128 + w / 32768 % 32 * 32768 + w / 1048576 % 32 * 1048576 + (w / 128 % 32 * 128 + w / 33554432 % 128 * 33554432) := by
    rw [← l]
    rfl
  rw [e]
  clear e l
  have d0 : w = w % 128 + 128 * (w / 128) := by omega
  have p0 : 0 ≤ w % 128 ∧ w % 128 < 128 := by omega
  have d7 : w / 128 = w / 128 % 32 + 32 * (w / 4096) := chain w 7 5 128 32 4096 (by decide) (by decide) (by decide)
  have p7 : 0 ≤ w / 128 % 32 ∧ w / 128 % 32 < 32 := by omega
  have d12 : w / 4096 = w / 4096 % 8 + 8 * (w / 32768) := chain w 12 3 4096 8 32768 (by decide) (by decide) (by decide)
  have p12 : 0 ≤ w / 4096 % 8 ∧ w / 4096 % 8 < 8 := by omega
  have d15 : w / 32768 = w / 32768 % 32 + 32 * (w / 1048576) := chain w 15 5 32768 32 1048576 (by decide) (by decide) (by decide)
  have p15 : 0 ≤ w / 32768 % 32 ∧ w / 32768 % 32 < 32 := by omega
  have d20 : w / 1048576 = w / 1048576 % 32 + 32 * (w / 33554432) := chain w 20 5 1048576 32 33554432 (by decide) (by decide) (by decide)
  have p20 : 0 ≤ w / 1048576 % 32 ∧ w / 1048576 % 32 < 32 := by omega
  have d25 : w / 33554432 = w / 33554432 % 128 := by omega
  have p25 : 0 ≤ w / 33554432 % 128 ∧ w / 33554432 % 128 < 128 := by omega
  generalize w % 128 = x0 at *
  generalize w / 128 % 32 = x7 at *
  generalize w / 4096 % 8 = x12 at *
  generalize w / 32768 % 32 = x15 at *
  generalize w / 1048576 % 32 = x20 at *
  generalize w / 33554432 % 128 = x25 at *
  generalize w / 128 = q7 at *
  generalize w / 4096 = q12 at *
  generalize w / 32768 = q15 at *
  generalize w / 1048576 = q20 at *
  generalize w / 33554432 = q25 at *
  omega
theorem hit6 (c g h w : Int) (w0 : 0 ≤ w) (w1 : w < 4294967296) (h0 : 0 ≤ h) (h1 : h < 64) : (w % 128 = c ∧ w / 4096 % 8 = g ∧ encW 6 c g h (w / 128 % 32) (w / 32768 % 32) (0) (takeF 6 w) = w) ↔ (w % 128 = c ∧ w / 4096 % 8 = g ∧ w / 67108864 = h / 2) := by
  have l : layF 6 (takeF 6 w) = w / 1048576 % 64 * 1048576 := by
    show w / 1048576 % 64 % 64 * 1048576 = _
    omega
  have e : encW 6 c g h (w / 128 % 32) (w / 32768 % 32) (0) (takeF 6 w) = c + g * 4096 + h / 2 * 67108864 + w / 128 % 32 * 128 + w / 32768 % 32 * 32768 + 0 * 1048576 + (w / 1048576 % 64 * 1048576) := by
    rw [← l]
    rfl
  rw [e]
  clear e l
  have ph : 0 ≤ h / 2 ∧ h / 2 < 32 := by omega
  generalize h / 2 = y at *
  have d0 : w = w % 128 + 128 * (w / 128) := by omega
  have p0 : 0 ≤ w % 128 ∧ w % 128 < 128 := by omega
  have d7 : w / 128 = w / 128 % 32 + 32 * (w / 4096) := chain w 7 5 128 32 4096 (by decide) (by decide) (by decide)
  have p7 : 0 ≤ w / 128 % 32 ∧ w / 128 % 32 < 32 := by omega
  have d12 : w / 4096 = w / 4096 % 8 + 8 * (w / 32768) := chain w 12 3 4096 8 32768 (by decide) (by decide) (by decide)
  have p12 : 0 ≤ w / 4096 % 8 ∧ w / 4096 % 8 < 8 := by omega
  have d15 : w / 32768 = w / 32768 % 32 + 32 * (w / 1048576) := chain w 15 5 32768 32 1048576 (by decide) (by decide) (by decide)
  have p15 : 0 ≤ w / 32768 % 32 ∧ w / 32768 % 32 < 32 := by omega
  have d20 : w / 1048576 = w / 1048576 % 64 + 64 * (w / 67108864) := chain w 20 6 1048576 64 67108864 (by decide) (by decide) (by decide)
  have p20 : 0 ≤ w / 1048576 % 64 ∧ w / 1048576 % 64 < 64 := by omega
  have d26 : w / 67108864 = w / 67108864 % 64 := by omega
  have p26 : 0 ≤ w / 67108864 % 64 ∧ w / 67108864 % 64 < 64 := by omega
  generalize w % 128 = x0 at *
  generalize w / 128 % 32 = x7 at *
  generalize w / 4096 % 8 = x12 at *
  generalize w / 32768 % 32 = x15 at *
  generalize w / 1048576 % 64 = x20 at *
  generalize w / 67108864 % 64 = x26 at *
  generalize w / 128 = q7 at *
  generalize w / 4096 = q12 at *
  generalize w / 32768 = q15 at *
  generalize w / 1048576 = q20 at *
  generalize w / 67108864 = q26 at *
  omega
theorem hit7 (c g h w : Int) (w0 : 0 ≤ w) (w1 : w < 4294967296) (h0 : 0 ≤ h) (h1 : h < 64) : (w % 128 = c ∧ w / 4096 % 8 = g ∧ encW 7 c g h (w / 128 % 32) (w / 32768 % 32) (0) (takeF 7 w) = w) ↔ (w % 128 = c ∧ w / 4096 % 8 = g ∧ w / 33554432 = h) := by
  have l : layF 7 (takeF 7 w) = w / 1048576 % 32 * 1048576 := by
    show w / 1048576 % 32 % 32 * 1048576 = _
    omega
  have e : encW 7 c g h (w / 128 % 32) (w / 32768 % 32) (0) (takeF 7 w) = c + g * 4096 + h * 33554432 + w / 128 % 32 * 128 + w / 32768 % 32 * 32768 + 0 * 1048576 + (w / 1048576 % 32 * 1048576) := by
    rw [← l]
    rfl
  rw [e]
  clear e l
  have d0 : w = w % 128 + 128 * (w / 128) := by omega
  have p0 : 0 ≤ w % 128 ∧ w % 128 < 128 := by omega
  have d7 : w / 128 = w / 128 % 32 + 32 * (w / 4096) := chain w 7 5 128 32 4096 (by decide) (by decide) (by decide)
  have p7 : 0 ≤ w / 128 % 32 ∧ w / 128 % 32 < 32 := by omega
  have d12 : w / 4096 = w / 4096 % 8 + 8 * (w / 32768) := chain w 12 3 4096 8 32768 (by decide) (by decide) (by decide)
  have p12 : 0 ≤ w / 4096 % 8 ∧ w / 4096 % 8 < 8 := by omega
  have d15 : w / 32768 = w / 32768 % 32 + 32 * (w / 1048576) := chain w 15 5 32768 32 1048576 (by decide) (by decide) (by decide)
  have p15 : 0 ≤ w / 32768 % 32 ∧ w / 32768 % 32 < 32 := by omega
  have d20 : w / 1048576 = w / 1048576 % 32 + 32 * (w / 33554432) := chain w 20 5 1048576 32 33554432 (by decide) (by decide) (by decide)
  have p20 : 0 ≤ w / 1048576 % 32 ∧ w / 1048576 % 32 < 32 := by omega
  have d25 : w / 33554432 = w / 33554432 % 128 := by omega
  have p25 : 0 ≤ w / 33554432 % 128 ∧ w / 33554432 % 128 < 128 := by omega
  generalize w % 128 = x0 at *
  generalize w / 128 % 32 = x7 at *
  generalize w / 4096 % 8 = x12 at *
  generalize w / 32768 % 32 = x15 at *
  generalize w / 1048576 % 32 = x20 at *
  generalize w / 33554432 % 128 = x25 at *
  generalize w / 128 = q7 at *
  generalize w / 4096 = q12 at *
  generalize w / 32768 = q15 at *
  generalize w / 1048576 = q20 at *
  generalize w / 33554432 = q25 at *
  omega
theorem hit8 (c g h w : Int) (w0 : 0 ≤ w) (w1 : w < 4294967296) (h0 : 0 ≤ h) (h1 : h < 64) : (w % 128 = c ∧ w / 4096 % 8 = g ∧ encW 8 c g h (w / 128 % 32) (w / 32768 % 32) (w / 1048576 % 32) (takeF 8 w) = w) ↔ (w % 128 = c ∧ w / 4096 % 8 = g ∧ w / 33554432 = h) := by
  have l : layF 8 (takeF 8 w) = 0 := rfl
  have e : encW 8 c g h (w / 128 % 32) (w / 32768 % 32) (w / 1048576 % 32) (takeF 8 w) = c + g * 4096 + h * 33554432 + w / 128 % 32 * 128 + w / 32768 % 32 * 32768 + w / 1048576 % 32 * 1048576 + (0) := by
    rw [← l]
    rfl
  rw [e]
  clear e l
  have d0 : w = w % 128 + 128 * (w / 128) := by omega
  have p0 : 0 ≤ w % 128 ∧ w % 128 < 128 := by omega
  have d7 : w / 128 = w / 128 % 32 + 32 * (w / 4096) := chain w 7 5 128 32 4096 (by decide) (by decide) (by decide)
  have p7 : 0 ≤ w / 128 % 32 ∧ w / 128 % 32 < 32 := by omega
  have d12 : w / 4096 = w / 4096 % 8 + 8 * (w / 32768) := chain w 12 3 4096 8 32768 (by decide) (by decide) (by decide)
  have p12 : 0 ≤ w / 4096 % 8 ∧ w / 4096 % 8 < 8 := by omega
  have d15 : w / 32768 = w / 32768 % 32 + 32 * (w / 1048576) := chain w 15 5 32768 32 1048576 (by decide) (by decide) (by decide)
  have p15 : 0 ≤ w / 32768 % 32 ∧ w / 32768 % 32 < 32 := by omega
  have d20 : w / 1048576 = w / 1048576 % 32 + 32 * (w / 33554432) := chain w 20 5 1048576 32 33554432 (by decide) (by decide) (by decide)
  have p20 : 0 ≤ w / 1048576 % 32 ∧ w / 1048576 % 32 < 32 := by omega
  have d25 : w / 33554432 = w / 33554432 % 128 := by omega
  have p25 : 0 ≤ w / 33554432 % 128 ∧ w / 33554432 % 128 < 128 := by omega
  generalize w % 128 = x0 at *
  generalize w / 128 % 32 = x7 at *
  generalize w / 4096 % 8 = x12 at *
  generalize w / 32768 % 32 = x15 at *
  generalize w / 1048576 % 32 = x20 at *
  generalize w / 33554432 % 128 = x25 at *
  generalize w / 128 = q7 at *
  generalize w / 4096 = q12 at *
  generalize w / 32768 = q15 at *
  generalize w / 1048576 = q20 at *
  generalize w / 33554432 = q25 at *
  omega
end Go.Proofs.YtiandbhcjecphaaGreatDoor
