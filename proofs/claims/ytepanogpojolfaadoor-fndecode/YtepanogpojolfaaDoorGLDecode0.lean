/- An instruction is read back from its word: plain. -/
import Derived.Test.YtepanogpojolfaaDoorGXDecode39
namespace Go.Proofs.YtepanogpojolfaaDoor
open Go.RowKit
set_option linter.unusedVariables false

set_option maxHeartbeats 4000000 in
theorem nest1 (c rd P w : Int) (c0 : 0 ≤ c) (c1 : c < 128) (rd0 : 0 ≤ rd) (rd1 : rd < 32) (P0 : 0 ≤ P) (P1 : P < 1048576) (hw : w = c + 128 * (rd + 32 * (P))) :
    0 ≤ w ∧ w < 4294967296 ∧ w % 128 = c ∧ w / 128 % 32 = rd ∧ takeF 1 w = sgn (P * 4096) 32 := by
  obtain ⟨X1, e1⟩ : ∃ X, X = rd + 32 * P := ⟨_, rfl⟩
  have d0 : w = c + 128 * X1 := by omega
  have b0 : 0 ≤ P := P0
  have p1 : 0 ≤ X1 ∧ X1 < 33554432 := by omega
  have q0 : w % 128 = c := by omega
  have q1 : w / 128 = X1 := by omega
  have rr1 : w / 128 % 32 = rd := by rw [q1]; omega
  have q2 : w / 4096 = P := by omega
  have rr2 : w / 4096 % 1048576 = P := by rw [q2]; omega
  exact ⟨by omega, by omega, q0, rr1, by show sgn (w / 4096 % 1048576 * 4096) 32 = _; rw [rr2]⟩
set_option maxHeartbeats 4000000 in
theorem nest2 (c rd P Q S U w : Int) (c0 : 0 ≤ c) (c1 : c < 128) (rd0 : 0 ≤ rd) (rd1 : rd < 32) (P0 : 0 ≤ P) (P1 : P < 256) (Q0 : 0 ≤ Q) (Q1 : Q < 2) (S0 : 0 ≤ S) (S1 : S < 1024) (U0 : 0 ≤ U) (U1 : U < 2) (hw : w = c + 128 * (rd + 32 * (P + 256 * (Q + 2 * (S + 1024 * (U)))))) :
    0 ≤ w ∧ w < 4294967296 ∧ w % 128 = c ∧ w / 128 % 32 = rd ∧ takeF 2 w = sgn (P * 4096 + Q * 2048 + S * 2 + U * 1048576) 21 := by
  obtain ⟨X4, e4⟩ : ∃ X, X = S + 1024 * U := ⟨_, rfl⟩
  obtain ⟨X3, e3⟩ : ∃ X, X = Q + 2 * X4 := ⟨_, rfl⟩
  obtain ⟨X2, e2⟩ : ∃ X, X = P + 256 * X3 := ⟨_, rfl⟩
  obtain ⟨X1, e1⟩ : ∃ X, X = rd + 32 * X2 := ⟨_, rfl⟩
  have d0 : w = c + 128 * X1 := by omega
  have b0 : 0 ≤ U := U0
  have p4 : 0 ≤ X4 ∧ X4 < 2048 := by omega
  have p3 : 0 ≤ X3 ∧ X3 < 4096 := by omega
  have p2 : 0 ≤ X2 ∧ X2 < 1048576 := by omega
  have p1 : 0 ≤ X1 ∧ X1 < 33554432 := by omega
  have q0 : w % 128 = c := by omega
  have q1 : w / 128 = X1 := by omega
  have rr1 : w / 128 % 32 = rd := by rw [q1]; omega
  have q2 : w / 4096 = X2 := by omega
  have rr2 : w / 4096 % 256 = P := by rw [q2]; omega
  have q3 : w / 1048576 = X3 := by omega
  have rr3 : w / 1048576 % 2 = Q := by rw [q3]; omega
  have q4 : w / 2097152 = X4 := by omega
  have rr4 : w / 2097152 % 1024 = S := by rw [q4]; omega
  have q5 : w / 2147483648 = U := by omega
  have rr5 : w / 2147483648 % 2 = U := by rw [q5]; omega
  exact ⟨by omega, by omega, q0, rr1, by show sgn (w / 4096 % 256 * 4096 + w / 1048576 % 2 * 2048 + w / 2097152 % 1024 * 2 + w / 2147483648 % 2 * 1048576) 21 = _; rw [rr2, rr3, rr4, rr5]⟩
set_option maxHeartbeats 4000000 in
theorem nest3 (c rd g r1 P w : Int) (c0 : 0 ≤ c) (c1 : c < 128) (rd0 : 0 ≤ rd) (rd1 : rd < 32) (g0 : 0 ≤ g) (g1 : g < 8) (r10 : 0 ≤ r1) (r11 : r1 < 32) (P0 : 0 ≤ P) (P1 : P < 4096) (hw : w = c + 128 * (rd + 32 * (g + 8 * (r1 + 32 * (P))))) :
    0 ≤ w ∧ w < 4294967296 ∧ w % 128 = c ∧ w / 4096 % 8 = g ∧ w / 128 % 32 = rd ∧ w / 32768 % 32 = r1 ∧ takeF 3 w = sgn P 12 := by
  obtain ⟨X3, e3⟩ : ∃ X, X = r1 + 32 * P := ⟨_, rfl⟩
  obtain ⟨X2, e2⟩ : ∃ X, X = g + 8 * X3 := ⟨_, rfl⟩
  obtain ⟨X1, e1⟩ : ∃ X, X = rd + 32 * X2 := ⟨_, rfl⟩
  have d0 : w = c + 128 * X1 := by omega
  have b0 : 0 ≤ P := P0
  have p3 : 0 ≤ X3 ∧ X3 < 131072 := by omega
  have p2 : 0 ≤ X2 ∧ X2 < 1048576 := by omega
  have p1 : 0 ≤ X1 ∧ X1 < 33554432 := by omega
  have q0 : w % 128 = c := by omega
  have q1 : w / 128 = X1 := by omega
  have rr1 : w / 128 % 32 = rd := by rw [q1]; omega
  have q2 : w / 4096 = X2 := by omega
  have rr2 : w / 4096 % 8 = g := by rw [q2]; omega
  have q3 : w / 32768 = X3 := by omega
  have rr3 : w / 32768 % 32 = r1 := by rw [q3]; omega
  have q4 : w / 1048576 = P := by omega
  have rr4 : w / 1048576 % 4096 = P := by rw [q4]; omega
  exact ⟨by omega, by omega, q0, rr2, rr1, rr3, by show sgn (w / 1048576 % 4096) 12 = _; rw [rr4]⟩
set_option maxHeartbeats 4000000 in
theorem nest4 (c P Q g r1 r2 S U w : Int) (c0 : 0 ≤ c) (c1 : c < 128) (P0 : 0 ≤ P) (P1 : P < 2) (Q0 : 0 ≤ Q) (Q1 : Q < 16) (g0 : 0 ≤ g) (g1 : g < 8) (r10 : 0 ≤ r1) (r11 : r1 < 32) (r20 : 0 ≤ r2) (r21 : r2 < 32) (S0 : 0 ≤ S) (S1 : S < 64) (U0 : 0 ≤ U) (U1 : U < 2) (hw : w = c + 128 * (P + 2 * (Q + 16 * (g + 8 * (r1 + 32 * (r2 + 32 * (S + 64 * (U)))))))) :
    0 ≤ w ∧ w < 4294967296 ∧ w % 128 = c ∧ w / 4096 % 8 = g ∧ w / 32768 % 32 = r1 ∧ w / 1048576 % 32 = r2 ∧ takeF 4 w = sgn (P * 2048 + Q * 2 + S * 32 + U * 4096) 13 := by
  obtain ⟨X6, e6⟩ : ∃ X, X = S + 64 * U := ⟨_, rfl⟩
  obtain ⟨X5, e5⟩ : ∃ X, X = r2 + 32 * X6 := ⟨_, rfl⟩
  obtain ⟨X4, e4⟩ : ∃ X, X = r1 + 32 * X5 := ⟨_, rfl⟩
  obtain ⟨X3, e3⟩ : ∃ X, X = g + 8 * X4 := ⟨_, rfl⟩
  obtain ⟨X2, e2⟩ : ∃ X, X = Q + 16 * X3 := ⟨_, rfl⟩
  obtain ⟨X1, e1⟩ : ∃ X, X = P + 2 * X2 := ⟨_, rfl⟩
  have d0 : w = c + 128 * X1 := by omega
  have b0 : 0 ≤ U := U0
  have p6 : 0 ≤ X6 ∧ X6 < 128 := by omega
  have p5 : 0 ≤ X5 ∧ X5 < 4096 := by omega
  have p4 : 0 ≤ X4 ∧ X4 < 131072 := by omega
  have p3 : 0 ≤ X3 ∧ X3 < 1048576 := by omega
  have p2 : 0 ≤ X2 ∧ X2 < 16777216 := by omega
  have p1 : 0 ≤ X1 ∧ X1 < 33554432 := by omega
  have q0 : w % 128 = c := by omega
  have q1 : w / 128 = X1 := by omega
  have rr1 : w / 128 % 2 = P := by rw [q1]; omega
  have q2 : w / 256 = X2 := by omega
  have rr2 : w / 256 % 16 = Q := by rw [q2]; omega
  have q3 : w / 4096 = X3 := by omega
  have rr3 : w / 4096 % 8 = g := by rw [q3]; omega
  have q4 : w / 32768 = X4 := by omega
  have rr4 : w / 32768 % 32 = r1 := by rw [q4]; omega
  have q5 : w / 1048576 = X5 := by omega
  have rr5 : w / 1048576 % 32 = r2 := by rw [q5]; omega
  have q6 : w / 33554432 = X6 := by omega
  have rr6 : w / 33554432 % 64 = S := by rw [q6]; omega
  have q7 : w / 2147483648 = U := by omega
  have rr7 : w / 2147483648 % 2 = U := by rw [q7]; omega
  exact ⟨by omega, by omega, q0, rr3, rr4, rr5, by show sgn (w / 128 % 2 * 2048 + w / 256 % 16 * 2 + w / 33554432 % 64 * 32 + w / 2147483648 % 2 * 4096) 13 = _; rw [rr1, rr2, rr6, rr7]⟩
set_option maxHeartbeats 4000000 in
theorem nest5 (c P g r1 r2 S w : Int) (c0 : 0 ≤ c) (c1 : c < 128) (P0 : 0 ≤ P) (P1 : P < 32) (g0 : 0 ≤ g) (g1 : g < 8) (r10 : 0 ≤ r1) (r11 : r1 < 32) (r20 : 0 ≤ r2) (r21 : r2 < 32) (S0 : 0 ≤ S) (S1 : S < 128) (hw : w = c + 128 * (P + 32 * (g + 8 * (r1 + 32 * (r2 + 32 * (S)))))) :
    0 ≤ w ∧ w < 4294967296 ∧ w % 128 = c ∧ w / 4096 % 8 = g ∧ w / 32768 % 32 = r1 ∧ w / 1048576 % 32 = r2 ∧ takeF 5 w = sgn (P + S * 32) 12 := by
  obtain ⟨X4, e4⟩ : ∃ X, X = r2 + 32 * S := ⟨_, rfl⟩
  obtain ⟨X3, e3⟩ : ∃ X, X = r1 + 32 * X4 := ⟨_, rfl⟩
  obtain ⟨X2, e2⟩ : ∃ X, X = g + 8 * X3 := ⟨_, rfl⟩
  obtain ⟨X1, e1⟩ : ∃ X, X = P + 32 * X2 := ⟨_, rfl⟩
  have d0 : w = c + 128 * X1 := by omega
  have b0 : 0 ≤ S := S0
  have p4 : 0 ≤ X4 ∧ X4 < 4096 := by omega
  have p3 : 0 ≤ X3 ∧ X3 < 131072 := by omega
  have p2 : 0 ≤ X2 ∧ X2 < 1048576 := by omega
  have p1 : 0 ≤ X1 ∧ X1 < 33554432 := by omega
  have q0 : w % 128 = c := by omega
  have q1 : w / 128 = X1 := by omega
  have rr1 : w / 128 % 32 = P := by rw [q1]; omega
  have q2 : w / 4096 = X2 := by omega
  have rr2 : w / 4096 % 8 = g := by rw [q2]; omega
  have q3 : w / 32768 = X3 := by omega
  have rr3 : w / 32768 % 32 = r1 := by rw [q3]; omega
  have q4 : w / 1048576 = X4 := by omega
  have rr4 : w / 1048576 % 32 = r2 := by rw [q4]; omega
  have q5 : w / 33554432 = S := by omega
  have rr5 : w / 33554432 % 128 = S := by rw [q5]; omega
  exact ⟨by omega, by omega, q0, rr2, rr3, rr4, by show sgn (w / 128 % 32 + w / 33554432 % 128 * 32) 12 = _; rw [rr1, rr5]⟩
set_option maxHeartbeats 4000000 in
theorem nest6 (c rd g r1 P h w : Int) (c0 : 0 ≤ c) (c1 : c < 128) (rd0 : 0 ≤ rd) (rd1 : rd < 32) (g0 : 0 ≤ g) (g1 : g < 8) (r10 : 0 ≤ r1) (r11 : r1 < 32) (P0 : 0 ≤ P) (P1 : P < 64) (h0 : 0 ≤ h) (h1 : h < 64) (hw : w = c + 128 * (rd + 32 * (g + 8 * (r1 + 32 * (P + 64 * (h)))))) :
    0 ≤ w ∧ w < 4294967296 ∧ w % 128 = c ∧ w / 4096 % 8 = g ∧ w / 128 % 32 = rd ∧ w / 32768 % 32 = r1 ∧ w / 67108864 = h ∧ takeF 6 w = P := by
  obtain ⟨X4, e4⟩ : ∃ X, X = P + 64 * h := ⟨_, rfl⟩
  obtain ⟨X3, e3⟩ : ∃ X, X = r1 + 32 * X4 := ⟨_, rfl⟩
  obtain ⟨X2, e2⟩ : ∃ X, X = g + 8 * X3 := ⟨_, rfl⟩
  obtain ⟨X1, e1⟩ : ∃ X, X = rd + 32 * X2 := ⟨_, rfl⟩
  have d0 : w = c + 128 * X1 := by omega
  have b0 : 0 ≤ h := h0
  have p4 : 0 ≤ X4 ∧ X4 < 4096 := by omega
  have p3 : 0 ≤ X3 ∧ X3 < 131072 := by omega
  have p2 : 0 ≤ X2 ∧ X2 < 1048576 := by omega
  have p1 : 0 ≤ X1 ∧ X1 < 33554432 := by omega
  have q0 : w % 128 = c := by omega
  have q1 : w / 128 = X1 := by omega
  have rr1 : w / 128 % 32 = rd := by rw [q1]; omega
  have q2 : w / 4096 = X2 := by omega
  have rr2 : w / 4096 % 8 = g := by rw [q2]; omega
  have q3 : w / 32768 = X3 := by omega
  have rr3 : w / 32768 % 32 = r1 := by rw [q3]; omega
  have q4 : w / 1048576 = X4 := by omega
  have rr4 : w / 1048576 % 64 = P := by rw [q4]; omega
  have q5 : w / 67108864 = h := by omega
  have rr5 : w / 67108864 % 64 = h := by rw [q5]; omega
  exact ⟨by omega, by omega, q0, rr2, rr1, rr3, q5, by show w / 1048576 % 64 = _; rw [rr4]⟩
set_option maxHeartbeats 4000000 in
theorem nest7 (c rd g r1 P h w : Int) (c0 : 0 ≤ c) (c1 : c < 128) (rd0 : 0 ≤ rd) (rd1 : rd < 32) (g0 : 0 ≤ g) (g1 : g < 8) (r10 : 0 ≤ r1) (r11 : r1 < 32) (P0 : 0 ≤ P) (P1 : P < 32) (h0 : 0 ≤ h) (h1 : h < 128) (hw : w = c + 128 * (rd + 32 * (g + 8 * (r1 + 32 * (P + 32 * (h)))))) :
    0 ≤ w ∧ w < 4294967296 ∧ w % 128 = c ∧ w / 4096 % 8 = g ∧ w / 128 % 32 = rd ∧ w / 32768 % 32 = r1 ∧ w / 33554432 = h ∧ takeF 7 w = P := by
  obtain ⟨X4, e4⟩ : ∃ X, X = P + 32 * h := ⟨_, rfl⟩
  obtain ⟨X3, e3⟩ : ∃ X, X = r1 + 32 * X4 := ⟨_, rfl⟩
  obtain ⟨X2, e2⟩ : ∃ X, X = g + 8 * X3 := ⟨_, rfl⟩
  obtain ⟨X1, e1⟩ : ∃ X, X = rd + 32 * X2 := ⟨_, rfl⟩
  have d0 : w = c + 128 * X1 := by omega
  have b0 : 0 ≤ h := h0
  have p4 : 0 ≤ X4 ∧ X4 < 4096 := by omega
  have p3 : 0 ≤ X3 ∧ X3 < 131072 := by omega
  have p2 : 0 ≤ X2 ∧ X2 < 1048576 := by omega
  have p1 : 0 ≤ X1 ∧ X1 < 33554432 := by omega
  have q0 : w % 128 = c := by omega
  have q1 : w / 128 = X1 := by omega
  have rr1 : w / 128 % 32 = rd := by rw [q1]; omega
  have q2 : w / 4096 = X2 := by omega
  have rr2 : w / 4096 % 8 = g := by rw [q2]; omega
  have q3 : w / 32768 = X3 := by omega
  have rr3 : w / 32768 % 32 = r1 := by rw [q3]; omega
  have q4 : w / 1048576 = X4 := by omega
  have rr4 : w / 1048576 % 32 = P := by rw [q4]; omega
  have q5 : w / 33554432 = h := by omega
  have rr5 : w / 33554432 % 128 = h := by rw [q5]; omega
  exact ⟨by omega, by omega, q0, rr2, rr1, rr3, q5, by show w / 1048576 % 32 = _; rw [rr4]⟩
set_option maxHeartbeats 4000000 in
theorem nest8 (c rd g r1 r2 h w : Int) (c0 : 0 ≤ c) (c1 : c < 128) (rd0 : 0 ≤ rd) (rd1 : rd < 32) (g0 : 0 ≤ g) (g1 : g < 8) (r10 : 0 ≤ r1) (r11 : r1 < 32) (r20 : 0 ≤ r2) (r21 : r2 < 32) (h0 : 0 ≤ h) (h1 : h < 128) (hw : w = c + 128 * (rd + 32 * (g + 8 * (r1 + 32 * (r2 + 32 * (h)))))) :
    0 ≤ w ∧ w < 4294967296 ∧ w % 128 = c ∧ w / 4096 % 8 = g ∧ w / 128 % 32 = rd ∧ w / 32768 % 32 = r1 ∧ w / 1048576 % 32 = r2 ∧ w / 33554432 = h ∧ takeF 8 w = 0 := by
  obtain ⟨X4, e4⟩ : ∃ X, X = r2 + 32 * h := ⟨_, rfl⟩
  obtain ⟨X3, e3⟩ : ∃ X, X = r1 + 32 * X4 := ⟨_, rfl⟩
  obtain ⟨X2, e2⟩ : ∃ X, X = g + 8 * X3 := ⟨_, rfl⟩
  obtain ⟨X1, e1⟩ : ∃ X, X = rd + 32 * X2 := ⟨_, rfl⟩
  have d0 : w = c + 128 * X1 := by omega
  have b0 : 0 ≤ h := h0
  have p4 : 0 ≤ X4 ∧ X4 < 4096 := by omega
  have p3 : 0 ≤ X3 ∧ X3 < 131072 := by omega
  have p2 : 0 ≤ X2 ∧ X2 < 1048576 := by omega
  have p1 : 0 ≤ X1 ∧ X1 < 33554432 := by omega
  have q0 : w % 128 = c := by omega
  have q1 : w / 128 = X1 := by omega
  have rr1 : w / 128 % 32 = rd := by rw [q1]; omega
  have q2 : w / 4096 = X2 := by omega
  have rr2 : w / 4096 % 8 = g := by rw [q2]; omega
  have q3 : w / 32768 = X3 := by omega
  have rr3 : w / 32768 % 32 = r1 := by rw [q3]; omega
  have q4 : w / 1048576 = X4 := by omega
  have rr4 : w / 1048576 % 32 = r2 := by rw [q4]; omega
  have q5 : w / 33554432 = h := by omega
  have rr5 : w / 33554432 % 128 = h := by rw [q5]; omega
  exact ⟨by omega, by omega, q0, rr2, rr1, rr3, rr4, q5, rfl⟩

/-- The word of what is right: its operation's bits, its fields. -/
def BackP (f c g h rd r1 r2 im w : Int) : Prop := 0 ≤ w ∧ w < 4294967296 ∧ hitI f c g h w ∧ tkRd f w = rd ∧ tkR1 f w = r1 ∧ tkR2 f w = r2 ∧ takeF f w = im
theorem back1 (c rd im : Int) (c0 : 0 ≤ c) (c1 : c < 128) (rd0 : 0 ≤ rd) (rd1 : rd < 32) (hi : okI 1 im) : BackP 1 c 0 0 rd 0 0 im (encW 1 c 0 0 rd 0 0 im) := by
  have hl := (take_lay 1 im (by decide) (by decide)).2 hi
  have bP : 0 ≤ im / 4096 % 1048576 ∧ im / 4096 % 1048576 < 1048576 := by omega
  have he : encW 1 c 0 0 rd 0 0 im = c + 0 * 4096 + 0 * 33554432 + rd * 128 + 0 * 32768 + 0 * 1048576 + im / 4096 % 1048576 * 4096 := rfl
  have hy : layF 1 im = im / 4096 % 1048576 * 4096 := rfl
  generalize encW 1 c 0 0 rd 0 0 im = w at *
  generalize layF 1 im = y at *
  have hn : takeF 1 w = takeF 1 y ∧ 0 ≤ w ∧ w < 4294967296 ∧ w % 128 = c ∧ w / 128 % 32 = rd := by
    generalize im / 4096 % 1048576 = P at *
    have N1 := nest1 c rd P w (by omega) (by omega) (by omega) (by omega) (by omega) (by omega) (by omega)
    have N2 := nest1 0 0 P y (by omega) (by omega) (by omega) (by omega) (by omega) (by omega) (by omega)
    obtain ⟨w0, w1, wc, wd, wt⟩ := N1
    obtain ⟨_, _, _, _, yt⟩ := N2
    exact ⟨wt.trans yt.symm, w0, w1, wc, wd⟩
  obtain ⟨ht, w0, w1, wc, wd⟩ := hn
  rw [hl] at ht
  exact ⟨w0, w1, wc, wd, rfl, rfl, ht⟩
theorem back2 (c rd im : Int) (c0 : 0 ≤ c) (c1 : c < 128) (rd0 : 0 ≤ rd) (rd1 : rd < 32) (hi : okI 2 im) : BackP 2 c 0 0 rd 0 0 im (encW 2 c 0 0 rd 0 0 im) := by
  have hl := (take_lay 2 im (by decide) (by decide)).2 hi
  have bP : 0 ≤ im / 4096 % 256 ∧ im / 4096 % 256 < 256 := by omega
  have bQ : 0 ≤ im / 2048 % 2 ∧ im / 2048 % 2 < 2 := by omega
  have bS : 0 ≤ im / 2 % 1024 ∧ im / 2 % 1024 < 1024 := by omega
  have bU : 0 ≤ im / 1048576 % 2 ∧ im / 1048576 % 2 < 2 := by omega
  have he : encW 2 c 0 0 rd 0 0 im = c + 0 * 4096 + 0 * 33554432 + rd * 128 + 0 * 32768 + 0 * 1048576 + (im / 4096 % 256 * 4096 + im / 2048 % 2 * 1048576 + im / 2 % 1024 * 2097152 + im / 1048576 % 2 * 2147483648) := rfl
  have hy : layF 2 im = im / 4096 % 256 * 4096 + im / 2048 % 2 * 1048576 + im / 2 % 1024 * 2097152 + im / 1048576 % 2 * 2147483648 := rfl
  generalize encW 2 c 0 0 rd 0 0 im = w at *
  generalize layF 2 im = y at *
  have hn : takeF 2 w = takeF 2 y ∧ 0 ≤ w ∧ w < 4294967296 ∧ w % 128 = c ∧ w / 128 % 32 = rd := by
    generalize im / 4096 % 256 = P at *
    generalize im / 2048 % 2 = Q at *
    generalize im / 2 % 1024 = S at *
    generalize im / 1048576 % 2 = U at *
    have N1 := nest2 c rd P Q S U w (by omega) (by omega) (by omega) (by omega) (by omega) (by omega) (by omega) (by omega) (by omega) (by omega) (by omega) (by omega) (by omega)
    have N2 := nest2 0 0 P Q S U y (by omega) (by omega) (by omega) (by omega) (by omega) (by omega) (by omega) (by omega) (by omega) (by omega) (by omega) (by omega) (by omega)
    obtain ⟨w0, w1, wc, wd, wt⟩ := N1
    obtain ⟨_, _, _, _, yt⟩ := N2
    exact ⟨wt.trans yt.symm, w0, w1, wc, wd⟩
  obtain ⟨ht, w0, w1, wc, wd⟩ := hn
  rw [hl] at ht
  exact ⟨w0, w1, wc, wd, rfl, rfl, ht⟩
theorem back3 (c g rd r1 im : Int) (c0 : 0 ≤ c) (c1 : c < 128) (g0 : 0 ≤ g) (g1 : g < 8) (rd0 : 0 ≤ rd) (rd1 : rd < 32) (r10 : 0 ≤ r1) (r11 : r1 < 32) (hi : okI 3 im) : BackP 3 c g 0 rd r1 0 im (encW 3 c g 0 rd r1 0 im) := by
  have hl := (take_lay 3 im (by decide) (by decide)).2 hi
  have bP : 0 ≤ im % 4096 ∧ im % 4096 < 4096 := by omega
  have he : encW 3 c g 0 rd r1 0 im = c + g * 4096 + 0 * 33554432 + rd * 128 + r1 * 32768 + 0 * 1048576 + im % 4096 * 1048576 := rfl
  have hy : layF 3 im = im % 4096 * 1048576 := rfl
  generalize encW 3 c g 0 rd r1 0 im = w at *
  generalize layF 3 im = y at *
  have hn : takeF 3 w = takeF 3 y ∧ 0 ≤ w ∧ w < 4294967296 ∧ w % 128 = c ∧ w / 4096 % 8 = g ∧ w / 128 % 32 = rd ∧ w / 32768 % 32 = r1 := by
    generalize im % 4096 = P at *
    have N1 := nest3 c rd g r1 P w (by omega) (by omega) (by omega) (by omega) (by omega) (by omega) (by omega) (by omega) (by omega) (by omega) (by omega)
    have N2 := nest3 0 0 0 0 P y (by omega) (by omega) (by omega) (by omega) (by omega) (by omega) (by omega) (by omega) (by omega) (by omega) (by omega)
    obtain ⟨w0, w1, wc, wg, wd, wa, wt⟩ := N1
    obtain ⟨_, _, _, _, _, _, yt⟩ := N2
    exact ⟨wt.trans yt.symm, w0, w1, wc, wg, wd, wa⟩
  obtain ⟨ht, w0, w1, wc, wg, wd, wa⟩ := hn
  rw [hl] at ht
  exact ⟨w0, w1, ⟨wc, wg⟩, wd, wa, rfl, ht⟩
theorem back4 (c g r1 r2 im : Int) (c0 : 0 ≤ c) (c1 : c < 128) (g0 : 0 ≤ g) (g1 : g < 8) (r10 : 0 ≤ r1) (r11 : r1 < 32) (r20 : 0 ≤ r2) (r21 : r2 < 32) (hi : okI 4 im) : BackP 4 c g 0 0 r1 r2 im (encW 4 c g 0 0 r1 r2 im) := by
  have hl := (take_lay 4 im (by decide) (by decide)).2 hi
  have bP : 0 ≤ im / 2048 % 2 ∧ im / 2048 % 2 < 2 := by omega
  have bQ : 0 ≤ im / 2 % 16 ∧ im / 2 % 16 < 16 := by omega
  have bS : 0 ≤ im / 32 % 64 ∧ im / 32 % 64 < 64 := by omega
  have bU : 0 ≤ im / 4096 % 2 ∧ im / 4096 % 2 < 2 := by omega
  have he : encW 4 c g 0 0 r1 r2 im = c + g * 4096 + 0 * 33554432 + 0 * 128 + r1 * 32768 + r2 * 1048576 + (im / 2048 % 2 * 128 + im / 2 % 16 * 256 + im / 32 % 64 * 33554432 + im / 4096 % 2 * 2147483648) := rfl
  have hy : layF 4 im = im / 2048 % 2 * 128 + im / 2 % 16 * 256 + im / 32 % 64 * 33554432 + im / 4096 % 2 * 2147483648 := rfl
  generalize encW 4 c g 0 0 r1 r2 im = w at *
  generalize layF 4 im = y at *
  have hn : takeF 4 w = takeF 4 y ∧ 0 ≤ w ∧ w < 4294967296 ∧ w % 128 = c ∧ w / 4096 % 8 = g ∧ w / 32768 % 32 = r1 ∧ w / 1048576 % 32 = r2 := by
    generalize im / 2048 % 2 = P at *
    generalize im / 2 % 16 = Q at *
    generalize im / 32 % 64 = S at *
    generalize im / 4096 % 2 = U at *
    have N1 := nest4 c P Q g r1 r2 S U w (by omega) (by omega) (by omega) (by omega) (by omega) (by omega) (by omega) (by omega) (by omega) (by omega) (by omega) (by omega) (by omega) (by omega) (by omega) (by omega) (by omega)
    have N2 := nest4 0 P Q 0 0 0 S U y (by omega) (by omega) (by omega) (by omega) (by omega) (by omega) (by omega) (by omega) (by omega) (by omega) (by omega) (by omega) (by omega) (by omega) (by omega) (by omega) (by omega)
    obtain ⟨w0, w1, wc, wg, wa, wb, wt⟩ := N1
    obtain ⟨_, _, _, _, _, _, yt⟩ := N2
    exact ⟨wt.trans yt.symm, w0, w1, wc, wg, wa, wb⟩
  obtain ⟨ht, w0, w1, wc, wg, wa, wb⟩ := hn
  rw [hl] at ht
  exact ⟨w0, w1, ⟨wc, wg⟩, rfl, wa, wb, ht⟩
theorem back5 (c g r1 r2 im : Int) (c0 : 0 ≤ c) (c1 : c < 128) (g0 : 0 ≤ g) (g1 : g < 8) (r10 : 0 ≤ r1) (r11 : r1 < 32) (r20 : 0 ≤ r2) (r21 : r2 < 32) (hi : okI 5 im) : BackP 5 c g 0 0 r1 r2 im (encW 5 c g 0 0 r1 r2 im) := by
  have hl := (take_lay 5 im (by decide) (by decide)).2 hi
  have bP : 0 ≤ im % 32 ∧ im % 32 < 32 := by omega
  have bS : 0 ≤ im / 32 % 128 ∧ im / 32 % 128 < 128 := by omega
  have he : encW 5 c g 0 0 r1 r2 im = c + g * 4096 + 0 * 33554432 + 0 * 128 + r1 * 32768 + r2 * 1048576 + (im % 32 * 128 + im / 32 % 128 * 33554432) := rfl
  have hy : layF 5 im = im % 32 * 128 + im / 32 % 128 * 33554432 := rfl
  generalize encW 5 c g 0 0 r1 r2 im = w at *
  generalize layF 5 im = y at *
  have hn : takeF 5 w = takeF 5 y ∧ 0 ≤ w ∧ w < 4294967296 ∧ w % 128 = c ∧ w / 4096 % 8 = g ∧ w / 32768 % 32 = r1 ∧ w / 1048576 % 32 = r2 := by
    generalize im % 32 = P at *
    generalize im / 32 % 128 = S at *
    have N1 := nest5 c P g r1 r2 S w (by omega) (by omega) (by omega) (by omega) (by omega) (by omega) (by omega) (by omega) (by omega) (by omega) (by omega) (by omega) (by omega)
    have N2 := nest5 0 P 0 0 0 S y (by omega) (by omega) (by omega) (by omega) (by omega) (by omega) (by omega) (by omega) (by omega) (by omega) (by omega) (by omega) (by omega)
    obtain ⟨w0, w1, wc, wg, wa, wb, wt⟩ := N1
    obtain ⟨_, _, _, _, _, _, yt⟩ := N2
    exact ⟨wt.trans yt.symm, w0, w1, wc, wg, wa, wb⟩
  obtain ⟨ht, w0, w1, wc, wg, wa, wb⟩ := hn
  rw [hl] at ht
  exact ⟨w0, w1, ⟨wc, wg⟩, rfl, wa, wb, ht⟩
theorem back6 (c g h rd r1 im : Int) (c0 : 0 ≤ c) (c1 : c < 128) (g0 : 0 ≤ g) (g1 : g < 8) (h0 : 0 ≤ h) (h1 : h < 64) (rd0 : 0 ≤ rd) (rd1 : rd < 32) (r10 : 0 ≤ r1) (r11 : r1 < 32) (hi : okI 6 im) : BackP 6 c g h rd r1 0 im (encW 6 c g h rd r1 0 im) := by
  have hl := (take_lay 6 im (by decide) (by decide)).2 hi
  have bP : 0 ≤ im % 64 ∧ im % 64 < 64 := by omega
  have he : encW 6 c g h rd r1 0 im = c + g * 4096 + h / 2 * 67108864 + rd * 128 + r1 * 32768 + 0 * 1048576 + im % 64 * 1048576 := rfl
  have hy : layF 6 im = im % 64 * 1048576 := rfl
  generalize encW 6 c g h rd r1 0 im = w at *
  generalize layF 6 im = y at *
  have hn : takeF 6 w = takeF 6 y ∧ 0 ≤ w ∧ w < 4294967296 ∧ w % 128 = c ∧ w / 4096 % 8 = g ∧ w / 128 % 32 = rd ∧ w / 32768 % 32 = r1 ∧ w / 67108864 = h / 2 := by
    generalize im % 64 = P at *
    have N1 := nest6 c rd g r1 P (h / 2) w (by omega) (by omega) (by omega) (by omega) (by omega) (by omega) (by omega) (by omega) (by omega) (by omega) (by omega) (by omega) (by omega)
    have N2 := nest6 0 0 0 0 P 0 y (by omega) (by omega) (by omega) (by omega) (by omega) (by omega) (by omega) (by omega) (by omega) (by omega) (by omega) (by omega) (by omega)
    obtain ⟨w0, w1, wc, wg, wd, wa, wh, wt⟩ := N1
    obtain ⟨_, _, _, _, _, _, _, yt⟩ := N2
    exact ⟨wt.trans yt.symm, w0, w1, wc, wg, wd, wa, wh⟩
  obtain ⟨ht, w0, w1, wc, wg, wd, wa, wh⟩ := hn
  rw [hl] at ht
  exact ⟨w0, w1, ⟨wc, wg, wh⟩, wd, wa, rfl, ht⟩
theorem back7 (c g h rd r1 im : Int) (c0 : 0 ≤ c) (c1 : c < 128) (g0 : 0 ≤ g) (g1 : g < 8) (h0 : 0 ≤ h) (h1 : h < 64) (rd0 : 0 ≤ rd) (rd1 : rd < 32) (r10 : 0 ≤ r1) (r11 : r1 < 32) (hi : okI 7 im) : BackP 7 c g h rd r1 0 im (encW 7 c g h rd r1 0 im) := by
  have hl := (take_lay 7 im (by decide) (by decide)).2 hi
  have bP : 0 ≤ im % 32 ∧ im % 32 < 32 := by omega
  have he : encW 7 c g h rd r1 0 im = c + g * 4096 + h * 33554432 + rd * 128 + r1 * 32768 + 0 * 1048576 + im % 32 * 1048576 := rfl
  have hy : layF 7 im = im % 32 * 1048576 := rfl
  generalize encW 7 c g h rd r1 0 im = w at *
  generalize layF 7 im = y at *
  have hn : takeF 7 w = takeF 7 y ∧ 0 ≤ w ∧ w < 4294967296 ∧ w % 128 = c ∧ w / 4096 % 8 = g ∧ w / 128 % 32 = rd ∧ w / 32768 % 32 = r1 ∧ w / 33554432 = h := by
    generalize im % 32 = P at *
    have N1 := nest7 c rd g r1 P h w (by omega) (by omega) (by omega) (by omega) (by omega) (by omega) (by omega) (by omega) (by omega) (by omega) (by omega) (by omega) (by omega)
    have N2 := nest7 0 0 0 0 P 0 y (by omega) (by omega) (by omega) (by omega) (by omega) (by omega) (by omega) (by omega) (by omega) (by omega) (by omega) (by omega) (by omega)
    obtain ⟨w0, w1, wc, wg, wd, wa, wh, wt⟩ := N1
    obtain ⟨_, _, _, _, _, _, _, yt⟩ := N2
    exact ⟨wt.trans yt.symm, w0, w1, wc, wg, wd, wa, wh⟩
  obtain ⟨ht, w0, w1, wc, wg, wd, wa, wh⟩ := hn
  rw [hl] at ht
  exact ⟨w0, w1, ⟨wc, wg, wh⟩, wd, wa, rfl, ht⟩
theorem back8 (c g h rd r1 r2 im : Int) (c0 : 0 ≤ c) (c1 : c < 128) (g0 : 0 ≤ g) (g1 : g < 8) (h0 : 0 ≤ h) (h1 : h < 64) (rd0 : 0 ≤ rd) (rd1 : rd < 32) (r10 : 0 ≤ r1) (r11 : r1 < 32) (r20 : 0 ≤ r2) (r21 : r2 < 32) (hi : okI 8 im) : BackP 8 c g h rd r1 r2 im (encW 8 c g h rd r1 r2 im) := by
  have hl := (take_lay 8 im (by decide) (by decide)).2 hi
  have he : encW 8 c g h rd r1 r2 im = c + g * 4096 + h * 33554432 + rd * 128 + r1 * 32768 + r2 * 1048576 + 0 := rfl
  generalize encW 8 c g h rd r1 r2 im = w at *
  obtain ⟨w0, w1, wc, wg, wd, wa, wb, wh, ht⟩ := nest8 c rd g r1 r2 h w (by omega) (by omega) (by omega) (by omega) (by omega) (by omega) (by omega) (by omega) (by omega) (by omega) (by omega) (by omega) (by omega)
  have him : im = 0 := hi
  subst him
  exact ⟨w0, w1, ⟨wc, wg, wh⟩, wd, wa, wb, ht⟩

theorem back9 (c h : Int) (c0 : 0 ≤ c) (c1 : c < 128) (h0 : 0 ≤ h) (h1 : h < 64) : BackP 9 c 0 h 0 0 0 0 (encW 9 c 0 h 0 0 0 0) := by
  have he : encW 9 c 0 h 0 0 0 0 = c + 0 * 4096 + h * 1048576 + 0 * 128 + 0 * 32768 + 0 * 1048576 + 0 := rfl
  have hh : hitI 9 c 0 h (encW 9 c 0 h 0 0 0 0) ↔ encW 9 c 0 h 0 0 0 0 = c + 0 * 4096 + h * 1048576 := Iff.rfl
  exact ⟨by omega, by omega, hh.2 (by omega), rfl, rfl, rfl, rfl⟩

/-- No word has what the instructions of two operations have. -/
def conf (s t : Int × Int × Int × Int) : Bool :=
  s.2.1 != t.2.1 ||
  (decide (3 ≤ s.1 ∧ s.1 ≤ 8) && decide (3 ≤ t.1 ∧ t.1 ≤ 8) && s.2.2.1 != t.2.2.1) ||
  (s.1 == 6 && t.1 == 6 && s.2.2.2 / 2 != t.2.2.2 / 2) ||
  (decide (7 ≤ s.1 ∧ s.1 ≤ 8) && decide (7 ≤ t.1 ∧ t.1 ≤ 8) && s.2.2.2 != t.2.2.2) ||
  (s.1 == 9 && t.1 == 9 && s.2.2.2 != t.2.2.2)
theorem conf_all : ∀ j : Nat, j < 65 → ∀ k : Nat, k < 65 → 1 ≤ j → j < k → conf (shT (j : Int)) (shT (k : Int)) = true := by decide +kernel
theorem hit_c (f c g h w : Int) (f0 : 1 ≤ f) (f1 : f ≤ 9) (c0 : 0 ≤ c) (c1 : c < 128) (H : hitI f c g h w) : w % 128 = c := by
  rcases (show f = 1 ∨ f = 2 ∨ f = 3 ∨ f = 4 ∨ f = 5 ∨ f = 6 ∨ f = 7 ∨ f = 8 ∨ f = 9 by omega) with rfl | rfl | rfl | rfl | rfl | rfl | rfl | rfl | rfl
  · exact H
  · exact H
  · exact H.1
  · exact H.1
  · exact H.1
  · exact H.1
  · exact H.1
  · exact H.1
  · have H' : w = c + g * 4096 + h * 1048576 := H
    omega
theorem hit_g (f c g h w : Int) (f0 : 3 ≤ f) (f1 : f ≤ 8) (H : hitI f c g h w) : w / 4096 % 8 = g := by
  rcases (show f = 3 ∨ f = 4 ∨ f = 5 ∨ f = 6 ∨ f = 7 ∨ f = 8 by omega) with rfl | rfl | rfl | rfl | rfl | rfl
  · exact H.2
  · exact H.2
  · exact H.2
  · exact H.2.1
  · exact H.2.1
  · exact H.2.1
theorem hit_h (f c g h w : Int) (f0 : 7 ≤ f) (f1 : f ≤ 8) (H : hitI f c g h w) : w / 33554432 = h := by
  rcases (show f = 7 ∨ f = 8 by omega) with rfl | rfl
  · exact H.2.2
  · exact H.2.2
theorem conf_no (s t : Int × Int × Int × Int) (w : Int) (s0 : 1 ≤ s.1) (s1 : s.1 ≤ 9) (t0 : 1 ≤ t.1) (t1 : t.1 ≤ 9) (cs0 : 0 ≤ s.2.1) (cs1 : s.2.1 < 128) (ct0 : 0 ≤ t.2.1) (ct1 : t.2.1 < 128) (gs : s.1 = 9 → s.2.2.1 = 0) (gt : t.1 = 9 → t.2.2.1 = 0)
    (h : conf s t = true) (H1 : hitI s.1 s.2.1 s.2.2.1 s.2.2.2 w) (H2 : hitI t.1 t.2.1 t.2.2.1 t.2.2.2 w) : False := by
  obtain ⟨f, c, g, hh⟩ := s
  obtain ⟨f', c', g', h'⟩ := t
  simp only at *
  have a1 := hit_c f c g hh w s0 s1 cs0 cs1 H1
  have a2 := hit_c f' c' g' h' w t0 t1 ct0 ct1 H2
  unfold conf at h
  simp only [Bool.or_eq_true, Bool.and_eq_true, decide_eq_true_eq, bne_iff_ne, beq_iff_eq] at h
  rcases h with (((h | ⟨⟨h3, h4⟩, h5⟩) | ⟨⟨h3, h4⟩, h5⟩) | ⟨⟨h3, h4⟩, h5⟩) | ⟨⟨h3, h4⟩, h5⟩
  · omega
  · have b1 := hit_g f c g hh w h3.1 h3.2 H1
    have b2 := hit_g f' c' g' h' w h4.1 h4.2 H2
    omega
  · subst h3 h4
    have b1 : w / 67108864 = hh / 2 := H1.2.2
    have b2 : w / 67108864 = h' / 2 := H2.2.2
    omega
  · have b1 := hit_h f c g hh w h3.1 h3.2 H1
    have b2 := hit_h f' c' g' h' w h4.1 h4.2 H2
    omega
  · subst h3 h4
    have b1 : w = c + g * 4096 + hh * 1048576 := H1
    have b2 : w = c' + g' * 4096 + h' * 1048576 := H2
    have e1 := gs rfl
    have e2 := gt rfl
    subst e1 e2
    omega
theorem hit_once (j k : Nat) (w : Int) (j0 : 1 ≤ j) (jk : j < k) (k1 : k ≤ 64) (H1 : HitP j w) (H2 : HitP k w) : False := by
  have o1 := sh_bounds (shT_ok j (by omega) (by omega))
  have o2 := sh_bounds (shT_ok k (by omega) (by omega))
  have m1 := sh_more (shT_ok j (by omega) (by omega))
  have m2 := sh_more (shT_ok k (by omega) (by omega))
  exact conf_no _ _ w o1.1 o1.2.1 o2.1 o2.2.1 o1.2.2.1 o1.2.2.2.1 o2.2.2.1 o2.2.2.2.1 m1.2.2.2.2.2 m2.2.2.2.2.2 (conf_all j (by omega) k (by omega) j0 jk) H1 H2
end Go.Proofs.YtepanogpojolfaaDoor
