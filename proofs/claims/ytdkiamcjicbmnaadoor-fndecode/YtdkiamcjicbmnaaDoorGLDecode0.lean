/- An instruction is read back from its word: plain. The source of draws: what one byte drawn leaves. Sources, choices: contracts. Bytes, choices and words drawn out of a source. Instructions drawn out of a source: contracts. An instruction drawn is one. Decode behind Encode, Encode behind Decode: contracts. From the shell's rows to bytes. -/
import Derived.Test.YtdkiamcjicbmnaaDoorGXDecode29
import Derived.Test.YtdkiamcjicbmnaaDoorRows
import Derived.WalkKit
import Derived.WalkSpells
import Derived.WalkLawsBesides
import Derived.Below
import Derived.Deep.RegionHeld3
import Derived.Deep.RegionWith
import Derived.Test.YtdkiamcjicbmnaaDoorGXDecode9
import Derived.Test.YtdkiamcjicbmnaaDoorGXDecode19
import Derived.Test.YtdkiamcjicbmnaaDoorGXDecode8
import Derived.Test.YtdkiamcjicbmnaaDoorGXDecode10
import Derived.OpenShut
namespace Go.Proofs.YtdkiamcjicbmnaaDoor
open Go.RowKit
set_option linter.unusedVariables false

set_option maxHeartbeats 4000000 in
theorem nest1 (c rd P w : Int) (c0 : 0 ≤ c) (c1 : c < 128) (rd0 : 0 ≤ rd) (rd1 : rd < 32) (P0 : 0 ≤ P) (P1 : P < 1048576) (hw : w = c + 128 * (rd + 32 * (P))) :
    0 ≤ w ∧ w < 4294967296 ∧ w % 128 = c ∧ w / 128 % 32 = rd ∧ takeF 1 w = sgn (P * 4096) 32 := by
  obtain ⟨X1, e1⟩ : ∃ X, X = rd + 32 * P := ⟨_, rfl⟩
  have d0 : w = c + 128 * X1 := by omega
  have b0 : 0 ≤ P := P0
  have p1 : 0 ≤ X1 ∧ X1 < 33554432 := by omega
  have q0 : w % 128 = c := by omega
  have q1 : w / 128 = X1 := by omega
  have rr1 : w / 128 % 32 = rd := by rw [q1]; omega
  have q2 : w / 4096 = P := by omega
  have rr2 : w / 4096 % 1048576 = P := by rw [q2]; omega
  exact ⟨by omega, by omega, q0, rr1, by show sgn (w / 4096 % 1048576 * 4096) 32 = _; rw [rr2]⟩
set_option maxHeartbeats 4000000 in
theorem nest2 (c rd P Q S U w : Int) (c0 : 0 ≤ c) (c1 : c < 128) (rd0 : 0 ≤ rd) (rd1 : rd < 32) (P0 : 0 ≤ P) (P1 : P < 256) (Q0 : 0 ≤ Q) (Q1 : Q < 2) (S0 : 0 ≤ S) (S1 : S < 1024) (U0 : 0 ≤ U) (U1 : U < 2) (hw : w = c + 128 * (rd + 32 * (P + 256 * (Q + 2 * (S + 1024 * (U)))))) :
    0 ≤ w ∧ w < 4294967296 ∧ w % 128 = c ∧ w / 128 % 32 = rd ∧ takeF 2 w = sgn (P * 4096 + Q * 2048 + S * 2 + U * 1048576) 21 := by
  obtain ⟨X4, e4⟩ : ∃ X, X = S + 1024 * U := ⟨_, rfl⟩
  obtain ⟨X3, e3⟩ : ∃ X, X = Q + 2 * X4 := ⟨_, rfl⟩
  obtain ⟨X2, e2⟩ : ∃ X, X = P + 256 * X3 := ⟨_, rfl⟩
  obtain ⟨X1, e1⟩ : ∃ X, X = rd + 32 * X2 := ⟨_, rfl⟩
  have d0 : w = c + 128 * X1 := by omega
  have b0 : 0 ≤ U := U0
  have p4 : 0 ≤ X4 ∧ X4 < 2048 := by omega
  have p3 : 0 ≤ X3 ∧ X3 < 4096 := by omega
  have p2 : 0 ≤ X2 ∧ X2 < 1048576 := by omega
  have p1 : 0 ≤ X1 ∧ X1 < 33554432 := by omega
  have q0 : w % 128 = c := by omega
  have q1 : w / 128 = X1 := by omega
  have rr1 : w / 128 % 32 = rd := by rw [q1]; omega
  have q2 : w / 4096 = X2 := by omega
  have rr2 : w / 4096 % 256 = P := by rw [q2]; omega
  have q3 : w / 1048576 = X3 := by omega
  have rr3 : w / 1048576 % 2 = Q := by rw [q3]; omega
  have q4 : w / 2097152 = X4 := by omega
  have rr4 : w / 2097152 % 1024 = S := by rw [q4]; omega
  have q5 : w / 2147483648 = U := by omega
  have rr5 : w / 2147483648 % 2 = U := by rw [q5]; omega
  exact ⟨by omega, by omega, q0, rr1, by show sgn (w / 4096 % 256 * 4096 + w / 1048576 % 2 * 2048 + w / 2097152 % 1024 * 2 + w / 2147483648 % 2 * 1048576) 21 = _; rw [rr2, rr3, rr4, rr5]⟩
set_option maxHeartbeats 4000000 in
theorem nest3 (c rd g r1 P w : Int) (c0 : 0 ≤ c) (c1 : c < 128) (rd0 : 0 ≤ rd) (rd1 : rd < 32) (g0 : 0 ≤ g) (g1 : g < 8) (r10 : 0 ≤ r1) (r11 : r1 < 32) (P0 : 0 ≤ P) (P1 : P < 4096) (hw : w = c + 128 * (rd + 32 * (g + 8 * (r1 + 32 * (P))))) :
    0 ≤ w ∧ w < 4294967296 ∧ w % 128 = c ∧ w / 4096 % 8 = g ∧ w / 128 % 32 = rd ∧ w / 32768 % 32 = r1 ∧ takeF 3 w = sgn P 12 := by
  obtain ⟨X3, e3⟩ : ∃ X, X = r1 + 32 * P := ⟨_, rfl⟩
  obtain ⟨X2, e2⟩ : ∃ X, X = g + 8 * X3 := ⟨_, rfl⟩
  obtain ⟨X1, e1⟩ : ∃ X, X = rd + 32 * X2 := ⟨_, rfl⟩
  have d0 : w = c + 128 * X1 := by omega
  have b0 : 0 ≤ P := P0
  have p3 : 0 ≤ X3 ∧ X3 < 131072 := by omega
  have p2 : 0 ≤ X2 ∧ X2 < 1048576 := by omega
  have p1 : 0 ≤ X1 ∧ X1 < 33554432 := by omega
  have q0 : w % 128 = c := by omega
  have q1 : w / 128 = X1 := by omega
  have rr1 : w / 128 % 32 = rd := by rw [q1]; omega
  have q2 : w / 4096 = X2 := by omega
  have rr2 : w / 4096 % 8 = g := by rw [q2]; omega
  have q3 : w / 32768 = X3 := by omega
  have rr3 : w / 32768 % 32 = r1 := by rw [q3]; omega
  have q4 : w / 1048576 = P := by omega
  have rr4 : w / 1048576 % 4096 = P := by rw [q4]; omega
  exact ⟨by omega, by omega, q0, rr2, rr1, rr3, by show sgn (w / 1048576 % 4096) 12 = _; rw [rr4]⟩
set_option maxHeartbeats 4000000 in
theorem nest4 (c P Q g r1 r2 S U w : Int) (c0 : 0 ≤ c) (c1 : c < 128) (P0 : 0 ≤ P) (P1 : P < 2) (Q0 : 0 ≤ Q) (Q1 : Q < 16) (g0 : 0 ≤ g) (g1 : g < 8) (r10 : 0 ≤ r1) (r11 : r1 < 32) (r20 : 0 ≤ r2) (r21 : r2 < 32) (S0 : 0 ≤ S) (S1 : S < 64) (U0 : 0 ≤ U) (U1 : U < 2) (hw : w = c + 128 * (P + 2 * (Q + 16 * (g + 8 * (r1 + 32 * (r2 + 32 * (S + 64 * (U)))))))) :
    0 ≤ w ∧ w < 4294967296 ∧ w % 128 = c ∧ w / 4096 % 8 = g ∧ w / 32768 % 32 = r1 ∧ w / 1048576 % 32 = r2 ∧ takeF 4 w = sgn (P * 2048 + Q * 2 + S * 32 + U * 4096) 13 := by
  obtain ⟨X6, e6⟩ : ∃ X, X = S + 64 * U := ⟨_, rfl⟩
  obtain ⟨X5, e5⟩ : ∃ X, X = r2 + 32 * X6 := ⟨_, rfl⟩
  obtain ⟨X4, e4⟩ : ∃ X, X = r1 + 32 * X5 := ⟨_, rfl⟩
  obtain ⟨X3, e3⟩ : ∃ X, X = g + 8 * X4 := ⟨_, rfl⟩
  obtain ⟨X2, e2⟩ : ∃ X, X = Q + 16 * X3 := ⟨_, rfl⟩
  obtain ⟨X1, e1⟩ : ∃ X, X = P + 2 * X2 := ⟨_, rfl⟩
  have d0 : w = c + 128 * X1 := by omega
  have b0 : 0 ≤ U := U0
  have p6 : 0 ≤ X6 ∧ X6 < 128 := by omega
  have p5 : 0 ≤ X5 ∧ X5 < 4096 := by omega
  have p4 : 0 ≤ X4 ∧ X4 < 131072 := by omega
  have p3 : 0 ≤ X3 ∧ X3 < 1048576 := by omega
  have p2 : 0 ≤ X2 ∧ X2 < 16777216 := by omega
  have p1 : 0 ≤ X1 ∧ X1 < 33554432 := by omega
  have q0 : w % 128 = c := by omega
  have q1 : w / 128 = X1 := by omega
  have rr1 : w / 128 % 2 = P := by rw [q1]; omega
  have q2 : w / 256 = X2 := by omega
  have rr2 : w / 256 % 16 = Q := by rw [q2]; omega
  have q3 : w / 4096 = X3 := by omega
  have rr3 : w / 4096 % 8 = g := by rw [q3]; omega
  have q4 : w / 32768 = X4 := by omega
  have rr4 : w / 32768 % 32 = r1 := by rw [q4]; omega
  have q5 : w / 1048576 = X5 := by omega
  have rr5 : w / 1048576 % 32 = r2 := by rw [q5]; omega
  have q6 : w / 33554432 = X6 := by omega
  have rr6 : w / 33554432 % 64 = S := by rw [q6]; omega
  have q7 : w / 2147483648 = U := by omega
  have rr7 : w / 2147483648 % 2 = U := by rw [q7]; omega
  exact ⟨by omega, by omega, q0, rr3, rr4, rr5, by show sgn (w / 128 % 2 * 2048 + w / 256 % 16 * 2 + w / 33554432 % 64 * 32 + w / 2147483648 % 2 * 4096) 13 = _; rw [rr1, rr2, rr6, rr7]⟩
set_option maxHeartbeats 4000000 in
theorem nest5 (c P g r1 r2 S w : Int) (c0 : 0 ≤ c) (c1 : c < 128) (P0 : 0 ≤ P) (P1 : P < 32) (g0 : 0 ≤ g) (g1 : g < 8) (r10 : 0 ≤ r1) (r11 : r1 < 32) (r20 : 0 ≤ r2) (r21 : r2 < 32) (S0 : 0 ≤ S) (S1 : S < 128) (hw : w = c + 128 * (P + 32 * (g + 8 * (r1 + 32 * (r2 + 32 * (S)))))) :
    0 ≤ w ∧ w < 4294967296 ∧ w % 128 = c ∧ w / 4096 % 8 = g ∧ w / 32768 % 32 = r1 ∧ w / 1048576 % 32 = r2 ∧ takeF 5 w = sgn (P + S * 32) 12 := by
  obtain ⟨X4, e4⟩ : ∃ X, X = r2 + 32 * S := ⟨_, rfl⟩
  obtain ⟨X3, e3⟩ : ∃ X, X = r1 + 32 * X4 := ⟨_, rfl⟩
  obtain ⟨X2, e2⟩ : ∃ X, X = g + 8 * X3 := ⟨_, rfl⟩
  obtain ⟨X1, e1⟩ : ∃ X, X = P + 32 * X2 := ⟨_, rfl⟩
  have d0 : w = c + 128 * X1 := by omega
  have b0 : 0 ≤ S := S0
  have p4 : 0 ≤ X4 ∧ X4 < 4096 := by omega
  have p3 : 0 ≤ X3 ∧ X3 < 131072 := by omega
  have p2 : 0 ≤ X2 ∧ X2 < 1048576 := by omega
  have p1 : 0 ≤ X1 ∧ X1 < 33554432 := by omega
  have q0 : w % 128 = c := by omega
  have q1 : w / 128 = X1 := by omega
  have rr1 : w / 128 % 32 = P := by rw [q1]; omega
  have q2 : w / 4096 = X2 := by omega
  have rr2 : w / 4096 % 8 = g := by rw [q2]; omega
  have q3 : w / 32768 = X3 := by omega
  have rr3 : w / 32768 % 32 = r1 := by rw [q3]; omega
  have q4 : w / 1048576 = X4 := by omega
  have rr4 : w / 1048576 % 32 = r2 := by rw [q4]; omega
  have q5 : w / 33554432 = S := by omega
  have rr5 : w / 33554432 % 128 = S := by rw [q5]; omega
  exact ⟨by omega, by omega, q0, rr2, rr3, rr4, by show sgn (w / 128 % 32 + w / 33554432 % 128 * 32) 12 = _; rw [rr1, rr5]⟩
set_option maxHeartbeats 4000000 in
theorem nest6 (c rd g r1 P h w : Int) (c0 : 0 ≤ c) (c1 : c < 128) (rd0 : 0 ≤ rd) (rd1 : rd < 32) (g0 : 0 ≤ g) (g1 : g < 8) (r10 : 0 ≤ r1) (r11 : r1 < 32) (P0 : 0 ≤ P) (P1 : P < 64) (h0 : 0 ≤ h) (h1 : h < 64) (hw : w = c + 128 * (rd + 32 * (g + 8 * (r1 + 32 * (P + 64 * (h)))))) :
    0 ≤ w ∧ w < 4294967296 ∧ w % 128 = c ∧ w / 4096 % 8 = g ∧ w / 128 % 32 = rd ∧ w / 32768 % 32 = r1 ∧ w / 67108864 = h ∧ takeF 6 w = P := by
  obtain ⟨X4, e4⟩ : ∃ X, X = P + 64 * h := ⟨_, rfl⟩
  obtain ⟨X3, e3⟩ : ∃ X, X = r1 + 32 * X4 := ⟨_, rfl⟩
  obtain ⟨X2, e2⟩ : ∃ X, X = g + 8 * X3 := ⟨_, rfl⟩
  obtain ⟨X1, e1⟩ : ∃ X, X = rd + 32 * X2 := ⟨_, rfl⟩
  have d0 : w = c + 128 * X1 := by omega
  have b0 : 0 ≤ h := h0
  have p4 : 0 ≤ X4 ∧ X4 < 4096 := by omega
  have p3 : 0 ≤ X3 ∧ X3 < 131072 := by omega
  have p2 : 0 ≤ X2 ∧ X2 < 1048576 := by omega
  have p1 : 0 ≤ X1 ∧ X1 < 33554432 := by omega
  have q0 : w % 128 = c := by omega
  have q1 : w / 128 = X1 := by omega
  have rr1 : w / 128 % 32 = rd := by rw [q1]; omega
  have q2 : w / 4096 = X2 := by omega
  have rr2 : w / 4096 % 8 = g := by rw [q2]; omega
  have q3 : w / 32768 = X3 := by omega
  have rr3 : w / 32768 % 32 = r1 := by rw [q3]; omega
  have q4 : w / 1048576 = X4 := by omega
  have rr4 : w / 1048576 % 64 = P := by rw [q4]; omega
  have q5 : w / 67108864 = h := by omega
  have rr5 : w / 67108864 % 64 = h := by rw [q5]; omega
  exact ⟨by omega, by omega, q0, rr2, rr1, rr3, q5, by show w / 1048576 % 64 = _; rw [rr4]⟩
set_option maxHeartbeats 4000000 in
theorem nest7 (c rd g r1 P h w : Int) (c0 : 0 ≤ c) (c1 : c < 128) (rd0 : 0 ≤ rd) (rd1 : rd < 32) (g0 : 0 ≤ g) (g1 : g < 8) (r10 : 0 ≤ r1) (r11 : r1 < 32) (P0 : 0 ≤ P) (P1 : P < 32) (h0 : 0 ≤ h) (h1 : h < 128) (hw : w = c + 128 * (rd + 32 * (g + 8 * (r1 + 32 * (P + 32 * (h)))))) :
    0 ≤ w ∧ w < 4294967296 ∧ w % 128 = c ∧ w / 4096 % 8 = g ∧ w / 128 % 32 = rd ∧ w / 32768 % 32 = r1 ∧ w / 33554432 = h ∧ takeF 7 w = P := by
  obtain ⟨X4, e4⟩ : ∃ X, X = P + 32 * h := ⟨_, rfl⟩
  obtain ⟨X3, e3⟩ : ∃ X, X = r1 + 32 * X4 := ⟨_, rfl⟩
  obtain ⟨X2, e2⟩ : ∃ X, X = g + 8 * X3 := ⟨_, rfl⟩
  obtain ⟨X1, e1⟩ : ∃ X, X = rd + 32 * X2 := ⟨_, rfl⟩
  have d0 : w = c + 128 * X1 := by omega
  have b0 : 0 ≤ h := h0
  have p4 : 0 ≤ X4 ∧ X4 < 4096 := by omega
  have p3 : 0 ≤ X3 ∧ X3 < 131072 := by omega
  have p2 : 0 ≤ X2 ∧ X2 < 1048576 := by omega
  have p1 : 0 ≤ X1 ∧ X1 < 33554432 := by omega
  have q0 : w % 128 = c := by omega
  have q1 : w / 128 = X1 := by omega
  have rr1 : w / 128 % 32 = rd := by rw [q1]; omega
  have q2 : w / 4096 = X2 := by omega
  have rr2 : w / 4096 % 8 = g := by rw [q2]; omega
  have q3 : w / 32768 = X3 := by omega
  have rr3 : w / 32768 % 32 = r1 := by rw [q3]; omega
  have q4 : w / 1048576 = X4 := by omega
  have rr4 : w / 1048576 % 32 = P := by rw [q4]; omega
  have q5 : w / 33554432 = h := by omega
  have rr5 : w / 33554432 % 128 = h := by rw [q5]; omega
  exact ⟨by omega, by omega, q0, rr2, rr1, rr3, q5, by show w / 1048576 % 32 = _; rw [rr4]⟩
set_option maxHeartbeats 4000000 in
theorem nest8 (c rd g r1 r2 h w : Int) (c0 : 0 ≤ c) (c1 : c < 128) (rd0 : 0 ≤ rd) (rd1 : rd < 32) (g0 : 0 ≤ g) (g1 : g < 8) (r10 : 0 ≤ r1) (r11 : r1 < 32) (r20 : 0 ≤ r2) (r21 : r2 < 32) (h0 : 0 ≤ h) (h1 : h < 128) (hw : w = c + 128 * (rd + 32 * (g + 8 * (r1 + 32 * (r2 + 32 * (h)))))) :
    0 ≤ w ∧ w < 4294967296 ∧ w % 128 = c ∧ w / 4096 % 8 = g ∧ w / 128 % 32 = rd ∧ w / 32768 % 32 = r1 ∧ w / 1048576 % 32 = r2 ∧ w / 33554432 = h ∧ takeF 8 w = 0 := by
  obtain ⟨X4, e4⟩ : ∃ X, X = r2 + 32 * h := ⟨_, rfl⟩
  obtain ⟨X3, e3⟩ : ∃ X, X = r1 + 32 * X4 := ⟨_, rfl⟩
  obtain ⟨X2, e2⟩ : ∃ X, X = g + 8 * X3 := ⟨_, rfl⟩
  obtain ⟨X1, e1⟩ : ∃ X, X = rd + 32 * X2 := ⟨_, rfl⟩
  have d0 : w = c + 128 * X1 := by omega
  have b0 : 0 ≤ h := h0
  have p4 : 0 ≤ X4 ∧ X4 < 4096 := by omega
  have p3 : 0 ≤ X3 ∧ X3 < 131072 := by omega
  have p2 : 0 ≤ X2 ∧ X2 < 1048576 := by omega
  have p1 : 0 ≤ X1 ∧ X1 < 33554432 := by omega
  have q0 : w % 128 = c := by omega
  have q1 : w / 128 = X1 := by omega
  have rr1 : w / 128 % 32 = rd := by rw [q1]; omega
  have q2 : w / 4096 = X2 := by omega
  have rr2 : w / 4096 % 8 = g := by rw [q2]; omega
  have q3 : w / 32768 = X3 := by omega
  have rr3 : w / 32768 % 32 = r1 := by rw [q3]; omega
  have q4 : w / 1048576 = X4 := by omega
  have rr4 : w / 1048576 % 32 = r2 := by rw [q4]; omega
  have q5 : w / 33554432 = h := by omega
  have rr5 : w / 33554432 % 128 = h := by rw [q5]; omega
  exact ⟨by omega, by omega, q0, rr2, rr1, rr3, rr4, q5, rfl⟩

/-- The word of what is right: its operation's bits, its fields. -/
def BackP (f c g h rd r1 r2 im w : Int) : Prop := 0 ≤ w ∧ w < 4294967296 ∧ hitI f c g h w ∧ tkRd f w = rd ∧ tkR1 f w = r1 ∧ tkR2 f w = r2 ∧ takeF f w = im
theorem back1 (c rd im : Int) (c0 : 0 ≤ c) (c1 : c < 128) (rd0 : 0 ≤ rd) (rd1 : rd < 32) (hi : okI 1 im) : BackP 1 c 0 0 rd 0 0 im (encW 1 c 0 0 rd 0 0 im) := by
  have hl := (take_lay 1 im (by decide) (by decide)).2 hi
  have bP : 0 ≤ im / 4096 % 1048576 ∧ im / 4096 % 1048576 < 1048576 := by omega
  have he : encW 1 c 0 0 rd 0 0 im = c + 0 * 4096 + 0 * 33554432 + rd * 128 + 0 * 32768 + 0 * 1048576 + im / 4096 % 1048576 * 4096 := rfl
  have hy : layF 1 im = im / 4096 % 1048576 * 4096 := rfl
  generalize encW 1 c 0 0 rd 0 0 im = w at *
  generalize layF 1 im = y at *
  have hn : takeF 1 w = takeF 1 y ∧ 0 ≤ w ∧ w < 4294967296 ∧ w % 128 = c ∧ w / 128 % 32 = rd := by
    generalize im / 4096 % 1048576 = P at *
    have N1 := nest1 c rd P w (by omega) (by omega) (by omega) (by omega) (by omega) (by omega) (by omega)
    have N2 := nest1 0 0 P y (by omega) (by omega) (by omega) (by omega) (by omega) (by omega) (by omega)
    obtain ⟨w0, w1, wc, wd, wt⟩ := N1
    obtain ⟨_, _, _, _, yt⟩ := N2
    exact ⟨wt.trans yt.symm, w0, w1, wc, wd⟩
  obtain ⟨ht, w0, w1, wc, wd⟩ := hn
  rw [hl] at ht
  exact ⟨w0, w1, wc, wd, rfl, rfl, ht⟩
theorem back2 (c rd im : Int) (c0 : 0 ≤ c) (c1 : c < 128) (rd0 : 0 ≤ rd) (rd1 : rd < 32) (hi : okI 2 im) : BackP 2 c 0 0 rd 0 0 im (encW 2 c 0 0 rd 0 0 im) := by
  have hl := (take_lay 2 im (by decide) (by decide)).2 hi
  have bP : 0 ≤ im / 4096 % 256 ∧ im / 4096 % 256 < 256 := by omega
  have bQ : 0 ≤ im / 2048 % 2 ∧ im / 2048 % 2 < 2 := by omega
  have bS : 0 ≤ im / 2 % 1024 ∧ im / 2 % 1024 < 1024 := by omega
  have bU : 0 ≤ im / 1048576 % 2 ∧ im / 1048576 % 2 < 2 := by omega
  have he : encW 2 c 0 0 rd 0 0 im = c + 0 * 4096 + 0 * 33554432 + rd * 128 + 0 * 32768 + 0 * 1048576 + (im / 4096 % 256 * 4096 + im / 2048 % 2 * 1048576 + im / 2 % 1024 * 2097152 + im / 1048576 % 2 * 2147483648) := rfl
  have hy : layF 2 im = im / 4096 % 256 * 4096 + im / 2048 % 2 * 1048576 + im / 2 % 1024 * 2097152 + im / 1048576 % 2 * 2147483648 := rfl
  generalize encW 2 c 0 0 rd 0 0 im = w at *
  generalize layF 2 im = y at *
  have hn : takeF 2 w = takeF 2 y ∧ 0 ≤ w ∧ w < 4294967296 ∧ w % 128 = c ∧ w / 128 % 32 = rd := by
    generalize im / 4096 % 256 = P at *
    generalize im / 2048 % 2 = Q at *
    generalize im / 2 % 1024 = S at *
    generalize im / 1048576 % 2 = U at *
    have N1 := nest2 c rd P Q S U w (by omega) (by omega) (by omega) (by omega) (by omega) (by omega) (by omega) (by omega) (by omega) (by omega) (by omega) (by omega) (by omega)
    have N2 := nest2 0 0 P Q S U y (by omega) (by omega) (by omega) (by omega) (by omega) (by omega) (by omega) (by omega) (by omega) (by omega) (by omega) (by omega) (by omega)
    obtain ⟨w0, w1, wc, wd, wt⟩ := N1
    obtain ⟨_, _, _, _, yt⟩ := N2
    exact ⟨wt.trans yt.symm, w0, w1, wc, wd⟩
  obtain ⟨ht, w0, w1, wc, wd⟩ := hn
  rw [hl] at ht
  exact ⟨w0, w1, wc, wd, rfl, rfl, ht⟩
theorem back3 (c g rd r1 im : Int) (c0 : 0 ≤ c) (c1 : c < 128) (g0 : 0 ≤ g) (g1 : g < 8) (rd0 : 0 ≤ rd) (rd1 : rd < 32) (r10 : 0 ≤ r1) (r11 : r1 < 32) (hi : okI 3 im) : BackP 3 c g 0 rd r1 0 im (encW 3 c g 0 rd r1 0 im) := by
  have hl := (take_lay 3 im (by decide) (by decide)).2 hi
  have bP : 0 ≤ im % 4096 ∧ im % 4096 < 4096 := by omega
  have he : encW 3 c g 0 rd r1 0 im = c + g * 4096 + 0 * 33554432 + rd * 128 + r1 * 32768 + 0 * 1048576 + im % 4096 * 1048576 := rfl
  have hy : layF 3 im = im % 4096 * 1048576 := rfl
  generalize encW 3 c g 0 rd r1 0 im = w at *
  generalize layF 3 im = y at *
  have hn : takeF 3 w = takeF 3 y ∧ 0 ≤ w ∧ w < 4294967296 ∧ w % 128 = c ∧ w / 4096 % 8 = g ∧ w / 128 % 32 = rd ∧ w / 32768 % 32 = r1 := by
    generalize im % 4096 = P at *
    have N1 := nest3 c rd g r1 P w (by omega) (by omega) (by omega) (by omega) (by omega) (by omega) (by omega) (by omega) (by omega) (by omega) (by omega)
    have N2 := nest3 0 0 0 0 P y (by omega) (by omega) (by omega) (by omega) (by omega) (by omega) (by omega) (by omega) (by omega) (by omega) (by omega)
    obtain ⟨w0, w1, wc, wg, wd, wa, wt⟩ := N1
    obtain ⟨_, _, _, _, _, _, yt⟩ := N2
    exact ⟨wt.trans yt.symm, w0, w1, wc, wg, wd, wa⟩
  obtain ⟨ht, w0, w1, wc, wg, wd, wa⟩ := hn
  rw [hl] at ht
  exact ⟨w0, w1, ⟨wc, wg⟩, wd, wa, rfl, ht⟩
theorem back4 (c g r1 r2 im : Int) (c0 : 0 ≤ c) (c1 : c < 128) (g0 : 0 ≤ g) (g1 : g < 8) (r10 : 0 ≤ r1) (r11 : r1 < 32) (r20 : 0 ≤ r2) (r21 : r2 < 32) (hi : okI 4 im) : BackP 4 c g 0 0 r1 r2 im (encW 4 c g 0 0 r1 r2 im) := by
  have hl := (take_lay 4 im (by decide) (by decide)).2 hi
  have bP : 0 ≤ im / 2048 % 2 ∧ im / 2048 % 2 < 2 := by omega
  have bQ : 0 ≤ im / 2 % 16 ∧ im / 2 % 16 < 16 := by omega
  have bS : 0 ≤ im / 32 % 64 ∧ im / 32 % 64 < 64 := by omega
  have bU : 0 ≤ im / 4096 % 2 ∧ im / 4096 % 2 < 2 := by omega
  have he : encW 4 c g 0 0 r1 r2 im = c + g * 4096 + 0 * 33554432 + 0 * 128 + r1 * 32768 + r2 * 1048576 + (im / 2048 % 2 * 128 + im / 2 % 16 * 256 + im / 32 % 64 * 33554432 + im / 4096 % 2 * 2147483648) := rfl
  have hy : layF 4 im = im / 2048 % 2 * 128 + im / 2 % 16 * 256 + im / 32 % 64 * 33554432 + im / 4096 % 2 * 2147483648 := rfl
  generalize encW 4 c g 0 0 r1 r2 im = w at *
  generalize layF 4 im = y at *
  have hn : takeF 4 w = takeF 4 y ∧ 0 ≤ w ∧ w < 4294967296 ∧ w % 128 = c ∧ w / 4096 % 8 = g ∧ w / 32768 % 32 = r1 ∧ w / 1048576 % 32 = r2 := by
    generalize im / 2048 % 2 = P at *
    generalize im / 2 % 16 = Q at *
    generalize im / 32 % 64 = S at *
    generalize im / 4096 % 2 = U at *
    have N1 := nest4 c P Q g r1 r2 S U w (by omega) (by omega) (by omega) (by omega) (by omega) (by omega) (by omega) (by omega) (by omega) (by omega) (by omega) (by omega) (by omega) (by omega) (by omega) (by omega) (by omega)
    have N2 := nest4 0 P Q 0 0 0 S U y (by omega) (by omega) (by omega) (by omega) (by omega) (by omega) (by omega) (by omega) (by omega) (by omega) (by omega) (by omega) (by omega) (by omega) (by omega) (by omega) (by omega)
    obtain ⟨w0, w1, wc, wg, wa, wb, wt⟩ := N1
    obtain ⟨_, _, _, _, _, _, yt⟩ := N2
    exact ⟨wt.trans yt.symm, w0, w1, wc, wg, wa, wb⟩
  obtain ⟨ht, w0, w1, wc, wg, wa, wb⟩ := hn
  rw [hl] at ht
  exact ⟨w0, w1, ⟨wc, wg⟩, rfl, wa, wb, ht⟩
theorem back5 (c g r1 r2 im : Int) (c0 : 0 ≤ c) (c1 : c < 128) (g0 : 0 ≤ g) (g1 : g < 8) (r10 : 0 ≤ r1) (r11 : r1 < 32) (r20 : 0 ≤ r2) (r21 : r2 < 32) (hi : okI 5 im) : BackP 5 c g 0 0 r1 r2 im (encW 5 c g 0 0 r1 r2 im) := by
  have hl := (take_lay 5 im (by decide) (by decide)).2 hi
  have bP : 0 ≤ im % 32 ∧ im % 32 < 32 := by omega
  have bS : 0 ≤ im / 32 % 128 ∧ im / 32 % 128 < 128 := by omega
  have he : encW 5 c g 0 0 r1 r2 im = c + g * 4096 + 0 * 33554432 + 0 * 128 + r1 * 32768 + r2 * 1048576 + (im % 32 * 128 + im / 32 % 128 * 33554432) := rfl
  have hy : layF 5 im = im % 32 * 128 + im / 32 % 128 * 33554432 := rfl
  generalize encW 5 c g 0 0 r1 r2 im = w at *
  generalize layF 5 im = y at *
  have hn : takeF 5 w = takeF 5 y ∧ 0 ≤ w ∧ w < 4294967296 ∧ w % 128 = c ∧ w / 4096 % 8 = g ∧ w / 32768 % 32 = r1 ∧ w / 1048576 % 32 = r2 := by
    generalize im % 32 = P at *
    generalize im / 32 % 128 = S at *
    have N1 := nest5 c P g r1 r2 S w (by omega) (by omega) (by omega) (by omega) (by omega) (by omega) (by omega) (by omega) (by omega) (by omega) (by omega) (by omega) (by omega)
    have N2 := nest5 0 P 0 0 0 S y (by omega) (by omega) (by omega) (by omega) (by omega) (by omega) (by omega) (by omega) (by omega) (by omega) (by omega) (by omega) (by omega)
    obtain ⟨w0, w1, wc, wg, wa, wb, wt⟩ := N1
    obtain ⟨_, _, _, _, _, _, yt⟩ := N2
    exact ⟨wt.trans yt.symm, w0, w1, wc, wg, wa, wb⟩
  obtain ⟨ht, w0, w1, wc, wg, wa, wb⟩ := hn
  rw [hl] at ht
  exact ⟨w0, w1, ⟨wc, wg⟩, rfl, wa, wb, ht⟩
theorem back6 (c g h rd r1 im : Int) (c0 : 0 ≤ c) (c1 : c < 128) (g0 : 0 ≤ g) (g1 : g < 8) (h0 : 0 ≤ h) (h1 : h < 64) (rd0 : 0 ≤ rd) (rd1 : rd < 32) (r10 : 0 ≤ r1) (r11 : r1 < 32) (hi : okI 6 im) : BackP 6 c g h rd r1 0 im (encW 6 c g h rd r1 0 im) := by
  have hl := (take_lay 6 im (by decide) (by decide)).2 hi
  have bP : 0 ≤ im % 64 ∧ im % 64 < 64 := by omega
  have he : encW 6 c g h rd r1 0 im = c + g * 4096 + h / 2 * 67108864 + rd * 128 + r1 * 32768 + 0 * 1048576 + im % 64 * 1048576 := rfl
  have hy : layF 6 im = im % 64 * 1048576 := rfl
  generalize encW 6 c g h rd r1 0 im = w at *
  generalize layF 6 im = y at *
  have hn : takeF 6 w = takeF 6 y ∧ 0 ≤ w ∧ w < 4294967296 ∧ w % 128 = c ∧ w / 4096 % 8 = g ∧ w / 128 % 32 = rd ∧ w / 32768 % 32 = r1 ∧ w / 67108864 = h / 2 := by
    generalize im % 64 = P at *
    have N1 := nest6 c rd g r1 P (h / 2) w (by omega) (by omega) (by omega) (by omega) (by omega) (by omega) (by omega) (by omega) (by omega) (by omega) (by omega) (by omega) (by omega)
    have N2 := nest6 0 0 0 0 P 0 y (by omega) (by omega) (by omega) (by omega) (by omega) (by omega) (by omega) (by omega) (by omega) (by omega) (by omega) (by omega) (by omega)
    obtain ⟨w0, w1, wc, wg, wd, wa, wh, wt⟩ := N1
    obtain ⟨_, _, _, _, _, _, _, yt⟩ := N2
    exact ⟨wt.trans yt.symm, w0, w1, wc, wg, wd, wa, wh⟩
  obtain ⟨ht, w0, w1, wc, wg, wd, wa, wh⟩ := hn
  rw [hl] at ht
  exact ⟨w0, w1, ⟨wc, wg, wh⟩, wd, wa, rfl, ht⟩
theorem back7 (c g h rd r1 im : Int) (c0 : 0 ≤ c) (c1 : c < 128) (g0 : 0 ≤ g) (g1 : g < 8) (h0 : 0 ≤ h) (h1 : h < 64) (rd0 : 0 ≤ rd) (rd1 : rd < 32) (r10 : 0 ≤ r1) (r11 : r1 < 32) (hi : okI 7 im) : BackP 7 c g h rd r1 0 im (encW 7 c g h rd r1 0 im) := by
  have hl := (take_lay 7 im (by decide) (by decide)).2 hi
  have bP : 0 ≤ im % 32 ∧ im % 32 < 32 := by omega
  have he : encW 7 c g h rd r1 0 im = c + g * 4096 + h * 33554432 + rd * 128 + r1 * 32768 + 0 * 1048576 + im % 32 * 1048576 := rfl
  have hy : layF 7 im = im % 32 * 1048576 := rfl
  generalize encW 7 c g h rd r1 0 im = w at *
  generalize layF 7 im = y at *
  have hn : takeF 7 w = takeF 7 y ∧ 0 ≤ w ∧ w < 4294967296 ∧ w % 128 = c ∧ w / 4096 % 8 = g ∧ w / 128 % 32 = rd ∧ w / 32768 % 32 = r1 ∧ w / 33554432 = h := by
    generalize im % 32 = P at *
    have N1 := nest7 c rd g r1 P h w (by omega) (by omega) (by omega) (by omega) (by omega) (by omega) (by omega) (by omega) (by omega) (by omega) (by omega) (by omega) (by omega)
    have N2 := nest7 0 0 0 0 P 0 y (by omega) (by omega) (by omega) (by omega) (by omega) (by omega) (by omega) (by omega) (by omega) (by omega) (by omega) (by omega) (by omega)
    obtain ⟨w0, w1, wc, wg, wd, wa, wh, wt⟩ := N1
    obtain ⟨_, _, _, _, _, _, _, yt⟩ := N2
    exact ⟨wt.trans yt.symm, w0, w1, wc, wg, wd, wa, wh⟩
  obtain ⟨ht, w0, w1, wc, wg, wd, wa, wh⟩ := hn
  rw [hl] at ht
  exact ⟨w0, w1, ⟨wc, wg, wh⟩, wd, wa, rfl, ht⟩
theorem back8 (c g h rd r1 r2 im : Int) (c0 : 0 ≤ c) (c1 : c < 128) (g0 : 0 ≤ g) (g1 : g < 8) (h0 : 0 ≤ h) (h1 : h < 64) (rd0 : 0 ≤ rd) (rd1 : rd < 32) (r10 : 0 ≤ r1) (r11 : r1 < 32) (r20 : 0 ≤ r2) (r21 : r2 < 32) (hi : okI 8 im) : BackP 8 c g h rd r1 r2 im (encW 8 c g h rd r1 r2 im) := by
  have hl := (take_lay 8 im (by decide) (by decide)).2 hi
  have he : encW 8 c g h rd r1 r2 im = c + g * 4096 + h * 33554432 + rd * 128 + r1 * 32768 + r2 * 1048576 + 0 := rfl
  generalize encW 8 c g h rd r1 r2 im = w at *
  obtain ⟨w0, w1, wc, wg, wd, wa, wb, wh, ht⟩ := nest8 c rd g r1 r2 h w (by omega) (by omega) (by omega) (by omega) (by omega) (by omega) (by omega) (by omega) (by omega) (by omega) (by omega) (by omega) (by omega)
  have him : im = 0 := hi
  subst him
  exact ⟨w0, w1, ⟨wc, wg, wh⟩, wd, wa, wb, ht⟩

theorem back9 (c h : Int) (c0 : 0 ≤ c) (c1 : c < 128) (h0 : 0 ≤ h) (h1 : h < 64) : BackP 9 c 0 h 0 0 0 0 (encW 9 c 0 h 0 0 0 0) := by
  have he : encW 9 c 0 h 0 0 0 0 = c + 0 * 4096 + h * 1048576 + 0 * 128 + 0 * 32768 + 0 * 1048576 + 0 := rfl
  have hh : hitI 9 c 0 h (encW 9 c 0 h 0 0 0 0) ↔ encW 9 c 0 h 0 0 0 0 = c + 0 * 4096 + h * 1048576 := Iff.rfl
  exact ⟨by omega, by omega, hh.2 (by omega), rfl, rfl, rfl, rfl⟩

/-- No word has what the instructions of two operations have. -/
def conf (s t : Int × Int × Int × Int) : Bool :=
  s.2.1 != t.2.1 ||
  (decide (3 ≤ s.1 ∧ s.1 ≤ 8) && decide (3 ≤ t.1 ∧ t.1 ≤ 8) && s.2.2.1 != t.2.2.1) ||
  (s.1 == 6 && t.1 == 6 && s.2.2.2 / 2 != t.2.2.2 / 2) ||
  (decide (7 ≤ s.1 ∧ s.1 ≤ 8) && decide (7 ≤ t.1 ∧ t.1 ≤ 8) && s.2.2.2 != t.2.2.2) ||
  (s.1 == 9 && t.1 == 9 && s.2.2.2 != t.2.2.2)
theorem conf_all : ∀ j : Nat, j < 65 → ∀ k : Nat, k < 65 → 1 ≤ j → j < k → conf (shT (j : Int)) (shT (k : Int)) = true := by decide +kernel
theorem hit_c (f c g h w : Int) (f0 : 1 ≤ f) (f1 : f ≤ 9) (c0 : 0 ≤ c) (c1 : c < 128) (H : hitI f c g h w) : w % 128 = c := by
  rcases (show f = 1 ∨ f = 2 ∨ f = 3 ∨ f = 4 ∨ f = 5 ∨ f = 6 ∨ f = 7 ∨ f = 8 ∨ f = 9 by omega) with rfl | rfl | rfl | rfl | rfl | rfl | rfl | rfl | rfl
  · exact H
  · exact H
  · exact H.1
  · exact H.1
  · exact H.1
  · exact H.1
  · exact H.1
  · exact H.1
  · have H' : w = c + g * 4096 + h * 1048576 := H
    omega
theorem hit_g (f c g h w : Int) (f0 : 3 ≤ f) (f1 : f ≤ 8) (H : hitI f c g h w) : w / 4096 % 8 = g := by
  rcases (show f = 3 ∨ f = 4 ∨ f = 5 ∨ f = 6 ∨ f = 7 ∨ f = 8 by omega) with rfl | rfl | rfl | rfl | rfl | rfl
  · exact H.2
  · exact H.2
  · exact H.2
  · exact H.2.1
  · exact H.2.1
  · exact H.2.1
theorem hit_h (f c g h w : Int) (f0 : 7 ≤ f) (f1 : f ≤ 8) (H : hitI f c g h w) : w / 33554432 = h := by
  rcases (show f = 7 ∨ f = 8 by omega) with rfl | rfl
  · exact H.2.2
  · exact H.2.2
theorem conf_no (s t : Int × Int × Int × Int) (w : Int) (s0 : 1 ≤ s.1) (s1 : s.1 ≤ 9) (t0 : 1 ≤ t.1) (t1 : t.1 ≤ 9) (cs0 : 0 ≤ s.2.1) (cs1 : s.2.1 < 128) (ct0 : 0 ≤ t.2.1) (ct1 : t.2.1 < 128) (gs : s.1 = 9 → s.2.2.1 = 0) (gt : t.1 = 9 → t.2.2.1 = 0)
    (h : conf s t = true) (H1 : hitI s.1 s.2.1 s.2.2.1 s.2.2.2 w) (H2 : hitI t.1 t.2.1 t.2.2.1 t.2.2.2 w) : False := by
  obtain ⟨f, c, g, hh⟩ := s
  obtain ⟨f', c', g', h'⟩ := t
  simp only at *
  have a1 := hit_c f c g hh w s0 s1 cs0 cs1 H1
  have a2 := hit_c f' c' g' h' w t0 t1 ct0 ct1 H2
  unfold conf at h
  simp only [Bool.or_eq_true, Bool.and_eq_true, decide_eq_true_eq, bne_iff_ne, beq_iff_eq] at h
  rcases h with (((h | ⟨⟨h3, h4⟩, h5⟩) | ⟨⟨h3, h4⟩, h5⟩) | ⟨⟨h3, h4⟩, h5⟩) | ⟨⟨h3, h4⟩, h5⟩
  · omega
  · have b1 := hit_g f c g hh w h3.1 h3.2 H1
    have b2 := hit_g f' c' g' h' w h4.1 h4.2 H2
    omega
  · subst h3 h4
    have b1 : w / 67108864 = hh / 2 := H1.2.2
    have b2 : w / 67108864 = h' / 2 := H2.2.2
    omega
  · have b1 := hit_h f c g hh w h3.1 h3.2 H1
    have b2 := hit_h f' c' g' h' w h4.1 h4.2 H2
    omega
  · subst h3 h4
    have b1 : w = c + g * 4096 + hh * 1048576 := H1
    have b2 : w = c' + g' * 4096 + h' * 1048576 := H2
    have e1 := gs rfl
    have e2 := gt rfl
    subst e1 e2
    omega
theorem hit_once (j k : Nat) (w : Int) (j0 : 1 ≤ j) (jk : j < k) (k1 : k ≤ 64) (H1 : HitP j w) (H2 : HitP k w) : False := by
  have o1 := sh_bounds (shT_ok j (by omega) (by omega))
  have o2 := sh_bounds (shT_ok k (by omega) (by omega))
  have m1 := sh_more (shT_ok j (by omega) (by omega))
  have m2 := sh_more (shT_ok k (by omega) (by omega))
  exact conf_no _ _ w o1.1 o1.2.1 o2.1 o2.2.1 o1.2.2.1 o1.2.2.2.1 o2.2.2.1 o2.2.2.2.1 m1.2.2.2.2.2 m2.2.2.2.2.2 (conf_all j (by omega) k (by omega) j0 jk) H1 H2
end Go.Proofs.YtdkiamcjicbmnaaDoor

namespace Go.Proofs.YtdkiamcjicbmnaaDoor
open Go.RowKit
set_option linter.unusedVariables false

/-- Fewer draws than more than any law makes. (A structure: nothing lays it open in a walk.) -/
structure Few (p : Int) : Prop where
  lt : p < 1000000000

/-- A source of draws at block b: its code, how many were drawn, its seed. -/
structure Src (w : World) (b : Nat) (a : Option Addr) (len cap : Nat) (p sd : Int) : Prop where
  c0 : w.cell? ⟨b, 0, none⟩ = some (.slice a len cap)
  c1 : w.cell? ⟨b, 1, none⟩ = some (.int .i64 p)
  c2 : w.cell? ⟨b, 2, none⟩ = some (.int .i64 sd)
  f1 : w.frozen? ⟨b, 1, none⟩ = false
  f2 : w.frozen? ⟨b, 2, none⟩ = false
  p0 : 0 ≤ p
  p1 : p ≤ 1000000000
  s0 : 0 ≤ sd
  s1 : sd < 2147483648

/-- The first len cells of a slice of bytes that came in ahead of block B. -/
def Bytes (w : World) (B : Nat) (a : Option Addr) (len : Nat) : Prop :=
  len ≤ maxLen ∧ ∀ i, i < len → ∃ (bx off : Nat) (c : Int), a = some ⟨bx, off, none⟩ ∧ bx < B ∧ 0 ≤ c ∧ c < 256 ∧ w.cell? ⟨bx, off + i, none⟩ = some (.int .u8 c)

theorem Bytes.below {w w' : World} {B : Nat} {a : Option Addr} {len : Nat} (h : Bytes w B a len) (hb : Below B w w') : Bytes w' B a len :=
  ⟨h.1, fun i hi => by
    obtain ⟨bx, off, c, h1, h2, h3, h4, h5⟩ := h.2 i hi
    exact ⟨bx, off, c, h1, h2, h3, h4, (hb.cell (p := ⟨bx, off + i, none⟩) h2).trans h5⟩⟩

theorem grownBy_setCell {w : World} {b o : Nat} {u : Value} : w.grownBy (w.setCell ⟨b, o, none⟩ u) (some b) := by
  have h := (Below.refl 0 w).setCell (p := ⟨b, o, none⟩) (Nat.zero_le _) u
  exact ⟨h.os, h.tape, h.output, h.size, fun k _ hne => Below.heap_setCell w ⟨b, o, none⟩ u k (by intro e; exact hne (by rw [e]))⟩

theorem grownBy_drew {w w' : World} {r : Option Nat} (h : w.grownBy w' r) : w.grownBy w'.drew r := ⟨h.os, h.tape, h.output, h.size, h.block⟩

theorem grownBy_trans {w w1 w2 : World} {r : Option Nat} (h : w.grownBy w1 r) (k : w1.grownBy w2 r) : w.grownBy w2 r :=
  ⟨k.os.trans h.os, k.tape.trans h.tape, k.output.trans h.output, Nat.le_trans h.size k.size, fun i hi hne => (k.block i (Nat.lt_of_lt_of_le hi h.size) hne).trans (h.block i hi hne)⟩

theorem Src.drew {w : World} {b : Nat} {a : Option Addr} {len cap : Nat} {p sd : Int} (h : Src w b a len cap p sd) : Src w.drew b a len cap p sd :=
  ⟨h.c0, h.c1, h.c2, h.f1, h.f2, h.p0, h.p1, h.s0, h.s1⟩

theorem Src.step1 {w : World} {b : Nat} {a : Option Addr} {len cap : Nat} {p sd : Int} (h : Src w b a len cap p sd) (hp : Few p) : Src (w.setCell ⟨b, 1, none⟩ (.int .i64 (p + 1))) b a len cap (p + 1) sd :=
  ⟨(World.cell?_setCell_other _ _ _ _ (by simp)).trans h.c0, World.cell?_setCell_same _ _ _ h.c1, (World.cell?_setCell_other _ _ _ _ (by simp)).trans h.c2,
    (World.frozen?_setCell _ _ _ _).trans h.f1, (World.frozen?_setCell _ _ _ _).trans h.f2, by have := h.p0; omega, by have := hp.lt; omega, h.s0, h.s1⟩

theorem Src.step2 {w : World} {b : Nat} {a : Option Addr} {len cap : Nat} {p sd sd' : Int} (h : Src w b a len cap p sd) (h0 : 0 ≤ sd') (h1 : sd' < 2147483648) : Src (w.setCell ⟨b, 2, none⟩ (.int .i64 sd')) b a len cap p sd' :=
  ⟨(World.cell?_setCell_other _ _ _ _ (by simp)).trans h.c0, (World.cell?_setCell_other _ _ _ _ (by simp)).trans h.c1, World.cell?_setCell_same _ _ _ h.c2,
    (World.frozen?_setCell _ _ _ _).trans h.f1, (World.frozen?_setCell _ _ _ _).trans h.f2, h.p0, h.p1, h0, h1⟩

set_option maxRecDepth 100000 in
set_option maxHeartbeats 1000000 in
theorem byte_read (b bx off len cap i : Nat) (sd c : Int) (w : World) (h : Src w b (some ⟨bx, off, none⟩) len cap i sd) (hi : i < len) (hl : len ≤ maxLen) (hp : Few i) (hbx : bx < b) (hc : w.cell? ⟨bx, off + i, none⟩ = some (.int .u8 c)) (hc0 : 0 ≤ c) (hc1 : c < 256) :
    Calls Tryd.prog 67 #[.pointer (some ⟨b, 0, none⟩)] w fun e w' => ∃ v sd' : Int, e = .returned (.int .i64 v) ∧ 0 ≤ v ∧ v < 256 ∧ Src w' b (some ⟨bx, off, none⟩) len cap (i + 1) sd' ∧ w.grownBy w' (some b) := by
  have h' : Hid (Src w b (some ⟨bx, off, none⟩) len cap i sd) := h
  obtain ⟨c0, c1, c2, f1, f2, p0, p1, s0, s1⟩ := h
  unfold maxLen at hl
  have hi' : (i : Int) < (len : Int) := by omega
  have hne : bx ≠ b := by omega
  go_enter Tryd.func67, Tryd.ntmps67
  go_wp2_with fail
  go_region
  go_wp2_with fail
  go_region
  go_wp2_with fail
  go_region
  go_wp2
  go_ret
  refine ⟨_, (sd * 31 + c + 7) % 2147483648, rfl, hc0, hc1, ?_, ?_⟩
  rotate_left
  · repeat (refine grownBy_drew ?_)
    exact grownBy_trans grownBy_setCell grownBy_setCell
  · repeat (refine Src.drew ?_)
    exact (h'.out.step1 hp).step2 (by omega) (by omega)

set_option maxRecDepth 100000 in
set_option maxHeartbeats 1000000 in
/-- A byte is drawn: it is a byte, and of what was there the source's own block alone has turned. -/
theorem byte_any (b len cap B : Nat) (a : Option Addr) (p sd : Int) (w : World) (h : Src w b a len cap p sd) (hp : Few p) (hB : Bytes w B a len) (hb : B ≤ b) :
    Calls Tryd.prog 67 #[.pointer (some ⟨b, 0, none⟩)] w fun e w' => ∃ v sd' : Int, e = .returned (.int .i64 v) ∧ 0 ≤ v ∧ v < 256 ∧ Src w' b a len cap (p + 1) sd' ∧ w.grownBy w' (some b) := by
  have h' := h
  obtain ⟨c0, c1, c2, f1, f2, p0, p1, s0, s1⟩ := h
  have hl := hB.1
  unfold maxLen at hl
  by_cases hi : p < len
  · obtain ⟨i, rfl⟩ := Int.eq_ofNat_of_zero_le p0
    obtain ⟨bx, off, c, rfl, hbx, hc0, hc1, hc⟩ := hB.2 i (by omega)
    exact byte_read b bx off len cap i sd c w h' (by omega) hB.1 hp (by omega) hc hc0 hc1
  · have hi' : (len : Int) ≤ p := by omega
    clear hB hi
    by_cases hq : 3000 < p + 1
    · go_enter Tryd.func67, Tryd.ntmps67
      go_wp2_with fail
      go_region
      go_wp2
      go_ret
      refine ⟨_, sd, rfl, by omega, by omega, ?_, ?_⟩
      · exact (h'.step1 hp).drew
      · exact grownBy_drew grownBy_setCell
    · go_enter Tryd.func67, Tryd.ntmps67
      go_wp2_with fail
      go_region
      go_wp2
      go_ret
      refine ⟨_, (sd * 1103515245 + 12345) % 2147483648, rfl, ?_, ?_, ?_, ?_⟩
      rotate_left 3
      · repeat (refine grownBy_drew ?_)
        exact grownBy_trans grownBy_setCell grownBy_setCell
      · omega
      · omega
      · repeat (refine Src.drew ?_)
        exact (h'.step1 hp).step2 (by omega) (by omega)

/-- The same, the byte as a byte. -/
theorem byte_draw (b len cap B : Nat) (a : Option Addr) (p sd : Int) (w : World) (h : Src w b a len cap p sd) (hp : Few p) (hB : Bytes w B a len) (hb : B ≤ b) :
    Calls Tryd.prog 67 #[.pointer (some ⟨b, 0, none⟩)] w fun e w' => ∃ (c : UInt8) (sd' : Int), e = .returned (.int .i64 (c.toNat : Int)) ∧ Src w' b a len cap (p + 1) sd' ∧ w.grownBy w' (some b) :=
  (byte_any b len cap B a p sd w h hp hB hb).mono fun e w' ⟨v, sd', he, h0, h1, hs, hg⟩ => by
    refine ⟨UInt8.ofNat v.toNat, sd', ?_, hs, hg⟩
    rw [he, UInt8.toNat_ofNat_of_lt' (by show v.toNat < 256; omega), Int.toNat_of_nonneg h0]
end Go.Proofs.YtdkiamcjicbmnaaDoor

namespace Go.Proofs.YtdkiamcjicbmnaaDoor
open Go.RowKit
set_option linter.unusedVariables false

theorem Bytes.grown {w w' : World} {B b : Nat} {a : Option Addr} {len : Nat} (h : Bytes w B a len) (hg : w.grownBy w' (some b)) (hB : B ≤ b) (hs : B ≤ w.heap.size) : Bytes w' B a len :=
  ⟨h.1, fun i hi => by
    obtain ⟨bx, off, c, h1, h2, h3, h4, h5⟩ := h.2 i hi
    exact ⟨bx, off, c, h1, h2, h3, h4, (World.cell?_of_block (hg.block bx (by omega) (by intro e; injection e; omega))).trans h5⟩⟩

theorem Src.grown {w w' : World} {b : Nat} {a : Option Addr} {len cap : Nat} {p sd : Int} {row : Option Nat} (h : Src w b a len cap p sd) (hg : w.grownBy w' row) (hb : b < w.heap.size) (hne : some b ≠ row) : Src w' b a len cap p sd :=
  ⟨(World.cell?_of_block (hg.block b hb hne)).trans h.c0, (World.cell?_of_block (hg.block b hb hne)).trans h.c1, (World.cell?_of_block (hg.block b hb hne)).trans h.c2,
    (World.frozen?_of_block (hg.block b hb hne)).trans h.f1, (World.frozen?_of_block (hg.block b hb hne)).trans h.f2, h.p0, h.p1, h.s0, h.s1⟩

theorem Src.alloc {w : World} {b : Nat} {a : Option Addr} {len cap : Nat} {p sd : Int} (h : Src w b a len cap p sd) (hb : b < w.heap.size) (o : Obj) : Src (w.alloc o) b a len cap p sd :=
  h.grown (World.grownBy_alloc w o none) hb (by simp)

theorem grownBy_own {w w1 w2 : World} {r row : Option Nat} (h : w.grownBy w1 r) (k : w1.grownBy w2 row) (hr : ∀ i, row = some i → w.heap.size ≤ i) : w.grownBy w2 r :=
  ⟨k.os.trans h.os, k.tape.trans h.tape, k.output.trans h.output, Nat.le_trans h.size k.size, fun i hi hne =>
    (k.block i (Nat.lt_of_lt_of_le hi h.size) (by intro e; have := hr i e.symm; omega)).trans (h.block i hi hne)⟩

theorem grownBy_alloc1 {w w1 : World} {r : Option Nat} (h : w.grownBy w1 r) (o : Obj) : w.grownBy (w1.alloc o) r :=
  grownBy_own h (World.grownBy_alloc w1 o none) (fun _ e => by cases e)

theorem wrap_i64_in (x : Int) (h : -9223372036854775808 ≤ x) (h' : x < 9223372036854775808) : IntKind.i64.wrap x = x := by
  rw [IntKind.wrap_i64]
  omega

theorem at_val (c d : Int) (i len n : Nat) (hc0 : 0 ≤ c) (hc1 : c < 256) (hd0 : 0 ≤ d) (hd1 : d < 256) (hi : i ≤ 1000) (hn : 2 ≤ n) :
    ∃ v : Nat, v < n ∧ (IntKind.i64.wrap (IntKind.i64.wrap (IntKind.i64.wrap (IntKind.i64.wrap c * 31) + IntKind.i64.wrap d) + IntKind.i64.wrap ((i : Int) / (len : Int)))).tmod (n : Int) = (v : Int) := by
  have hq : (i : Int) / (len : Int) = ((i / len : Nat) : Int) := by simp
  have hq1 := Nat.div_le_self i len
  rw [hq]
  generalize i / len = q at *
  rw [wrap_i64_in c (by omega) (by omega), wrap_i64_in (c * 31) (by omega) (by omega), wrap_i64_in d (by omega) (by omega), wrap_i64_in (c * 31 + d) (by omega) (by omega), wrap_i64_in (q : Int) (by omega) (by omega), wrap_i64_in (c * 31 + d + q) (by omega) (by omega)]
  rw [Int.tmod_eq_emod_of_nonneg (by omega)]
  have h0 := Int.emod_nonneg (c * 31 + d + (q : Int)) (show (n : Int) ≠ 0 by omega)
  have h1 := Int.emod_lt_of_pos (c * 31 + d + (q : Int)) (show (0 : Int) < (n : Int) by omega)
  generalize (c * 31 + d + (q : Int)) % (n : Int) = r at *
  exact ⟨r.toNat, by omega, by omega⟩

theorem source_any (len cap : Nat) (a : Option Addr) (w : World) (hl : len ≤ maxLen) :
    Calls Tryd.prog 28 #[.slice a len cap] w fun e w' => ∃ sd : Int, e = .returned (.pointer (some ⟨w.heap.size, 0, none⟩)) ∧ Src w' w.heap.size a len cap (0 : Nat) sd ∧ Below w.heap.size w w' ∧ w.heap.size < w'.heap.size := by
  unfold maxLen at hl
  go_enter Tryd.func28, Tryd.ntmps28
  go_wp2
  go_ret
  exact ⟨(len : Int) % 1000, rfl, ⟨by simp, by simp, by simp, by simp, by simp, by simp, by omega, by omega, by omega⟩, (Below.refl _ _).alloc (Nat.le_refl _) _, by simp⟩

set_option maxRecDepth 100000 in
set_option maxHeartbeats 1000000 in
theorem at_nat (len cap B i n : Nat) (a : Option Addr) (w : World) (hi : i ≤ 1000) (hn1 : 2 ≤ n) (hn : n ≤ 1000000) (h0 : 0 < len) (hB : Bytes w B a len) :
    Calls Tryd.prog 16 #[.slice a len cap, .int .i64 i, .int .i64 n] w fun e w' => ∃ v : Nat, v < n ∧ e = .returned (.int .i64 v) ∧ Below w.heap.size w w' := by
  have hl := hB.1
  unfold maxLen at hl
  obtain ⟨bx, off, c, rfl, hbx, hc0, hc1, hc⟩ := hB.2 (i % len) (Nat.mod_lt _ h0)
  obtain ⟨bx', off', d, he, hbx', hd0, hd1, hd⟩ := hB.2 ((i + 1) % len) (Nat.mod_lt _ h0)
  simp only [Option.some.injEq, Addr.mk.injEq] at he
  obtain ⟨rfl, rfl, _⟩ := he
  have hm := Nat.mod_lt i h0
  have hm' := Nat.mod_lt (i + 1) h0
  have e1 : (i : Int) % (len : Int) = ((i % len : Nat) : Int) := by simp
  have e2 : ((i : Int) + 1) % (len : Int) = (((i + 1) % len : Nat) : Int) := by simp
  generalize i % len = j at *
  generalize (i + 1) % len = j' at *
  have t1 : (i : Int).tmod (len : Int) = (j : Int) := by rw [Int.tmod_eq_emod_of_nonneg (by omega)]; exact e1
  have t2 : ((i : Int) + 1).tmod (len : Int) = (j' : Int) := by rw [Int.tmod_eq_emod_of_nonneg (by omega)]; exact e2
  have hj0 : (0 : Int) ≤ (j : Int) := by omega
  have hj1 : (j : Int) < (len : Int) := by omega
  have hk0 : (0 : Int) ≤ (j' : Int) := by omega
  have hk1 : (j' : Int) < (len : Int) := by omega
  have hz : ((len : Int) == 0) = false := by simp; omega
  have ew := wrap_i64_in ((i : Int) + 1) (by omega) (by omega)
  have hlz : ¬ len = 0 := by omega
  have hnz : ¬ n = 0 := by omega
  clear hB
  go_enter Tryd.func16, Tryd.ntmps16
  go_wp2_with fail
  go_region_held3 (fun w' => w'.cell? ⟨bx, off + j, none⟩ = some (.int .u8 c) ∧ w'.cell? ⟨bx, off + j', none⟩ = some (.int .u8 d)) (go_keep) (fail)
  obtain ⟨v, hv, hval⟩ := at_val c d i len n hc0 hc1 hd0 hd1 hi hn1
  go_wp2
  go_ret
  exact ⟨v, hv, congrArg (fun x => Ending.returned (.int .i64 x)) hval, by repeat (first | exact Below.refl _ _ | refine Below.drew ?_)⟩

theorem at_empty (cap i n : Nat) (a : Option Addr) (w : World) (hi : i ≤ 1000) (hn1 : 2 ≤ n) (hn : n ≤ 1000000) :
    Calls Tryd.prog 16 #[.slice a 0 cap, .int .i64 i, .int .i64 n] w fun e w' => ∃ v : Nat, v < n ∧ e = .returned (.int .i64 v) ∧ Below w.heap.size w w' := by
  have hnz : ¬ n = 0 := by omega
  go_enter Tryd.func16, Tryd.ntmps16
  go_wp2
  go_ret
  have h0 := Int.emod_nonneg ((i : Int) * 7) (show (n : Int) ≠ 0 by omega)
  have h1 := Int.emod_lt_of_pos ((i : Int) * 7) (show (0 : Int) < (n : Int) by omega)
  exact ⟨(((i : Int) * 7) % (n : Int)).toNat, by omega, congrArg (fun x => Ending.returned (.int .i64 x)) (Int.toNat_of_nonneg h0).symm, Below.refl _ _⟩

theorem at_one (cap len i n : Nat) (a : Option Addr) (w : World) (hn1 : n ≤ 1) :
    Calls Tryd.prog 16 #[.slice a len cap, .int .i64 i, .int .i64 n] w fun e w' => e = .returned (.int .i64 (0 : Nat)) ∧ Below w.heap.size w w' := by
  go_enter Tryd.func16, Tryd.ntmps16
  go_wp2
  go_ret
  exact ⟨rfl, Below.refl _ _⟩

/-- A choice out of n is one of them (the first one where n is below 2). -/
theorem at_any (len cap B : Nat) (i n : Int) (a : Option Addr) (w : World) (hi0 : 0 ≤ i) (hi : i ≤ 1000) (hn0 : 0 ≤ n) (hn : n ≤ 1000000) (hB : Bytes w B a len) :
    Calls Tryd.prog 16 #[.slice a len cap, .int .i64 i, .int .i64 n] w fun e w' => ∃ v : Nat, (v : Int) < max n 1 ∧ e = .returned (.int .i64 v) ∧ Below w.heap.size w w' := by
  obtain ⟨i, rfl⟩ := Int.eq_ofNat_of_zero_le hi0
  obtain ⟨n, rfl⟩ := Int.eq_ofNat_of_zero_le hn0
  by_cases h1 : n ≤ 1
  · exact (at_one cap len i n a w h1).mono fun e w' ⟨he, hb⟩ => ⟨0, by omega, he, hb⟩
  · by_cases h0 : len = 0
    · subst h0
      exact (at_empty cap i n a w (by omega) (by omega) (by omega)).mono fun e w' ⟨v, hv, he, hb⟩ => ⟨v, by omega, he, hb⟩
    · exact (at_nat len cap B i n a w (by omega) (by omega) (by omega) (by omega) hB).mono fun e w' ⟨v, hv, he, hb⟩ => ⟨v, by omega, he, hb⟩

end Go.Proofs.YtdkiamcjicbmnaaDoor

namespace Go.Proofs.YtdkiamcjicbmnaaDoor
open Go.RowKit
set_option linter.unusedVariables false

/-- A source from which at most m draws were made. -/
structure Ctx (w : World) (B b : Nat) (a : Option Addr) (len cap m : Nat) : Prop where
  src : ∃ p sd : Int, p ≤ m ∧ Src w b a len cap p sd
  bytes : Bytes w B a len
  le : B ≤ b
  bw : b < w.heap.size

theorem Ctx.mono {w : World} {B b len cap m m' : Nat} {a : Option Addr} (h : Ctx w B b a len cap m) (hm : m ≤ m') : Ctx w B b a len cap m' := by
  obtain ⟨⟨p, sd, hp, hs⟩, h1, h2, h3⟩ := h
  exact ⟨⟨p, sd, by omega, hs⟩, h1, h2, h3⟩
theorem Ctx.alloc {w : World} {B b len cap m : Nat} {a : Option Addr} (h : Ctx w B b a len cap m) (o : Obj) : Ctx (w.alloc o) B b a len cap m := by
  obtain ⟨⟨p, sd, hp, hs⟩, h1, h2, h3⟩ := h
  exact ⟨⟨p, sd, hp, hs.alloc h3 o⟩, h1.below ((Below.refl _ _).alloc (by omega) o), h2, by simp; omega⟩
theorem Ctx.drew {w : World} {B b len cap m : Nat} {a : Option Addr} (h : Ctx w B b a len cap m) : Ctx w.drew B b a len cap m := by
  obtain ⟨⟨p, sd, hp, hs⟩, h1, h2, h3⟩ := h
  exact ⟨⟨p, sd, hp, hs.drew⟩, h1.below (Below.refl _ _).drew, h2, h3⟩

theorem byte_ctx (B b len cap m : Nat) (a : Option Addr) (w : World) (h : Ctx w B b a len cap m) (hm : m ≤ 100000) :
    Calls Tryd.prog 67 #[.pointer (some ⟨b, 0, none⟩)] w fun e w' => ∃ v : Nat, v < 256 ∧ e = .returned (.int .i64 v) ∧ Ctx w' B b a len cap (m + 1) ∧ w.grownBy w' (some b) := by
  obtain ⟨⟨p, sd, hp, hs⟩, h1, h2, h3⟩ := h
  refine (byte_any b len cap B a p sd w hs ⟨by omega⟩ h1 h2).mono ?_
  rintro e w' ⟨v, sd', he, hv0, hv1, hs', hg⟩
  obtain ⟨v, rfl⟩ := Int.eq_ofNat_of_zero_le hv0
  exact ⟨v, by omega, he, ⟨⟨p + 1, sd', by omega, hs'⟩, h1.grown hg h2 (by omega), h2, Nat.lt_of_lt_of_le h3 hg.size⟩, hg⟩

theorem next_small (B b len cap m n : Nat) (a : Option Addr) (w : World) (h : Ctx w B b a len cap m) (hm : m ≤ 100000) (hn0 : 2 ≤ n) (hn1 : n ≤ 256) :
    Calls Tryd.prog 51 #[.pointer (some ⟨b, 0, none⟩), .int .i64 n] w fun e w' => ∃ v : Nat, v < n ∧ e = .returned (.int .i64 v) ∧ Ctx w' B b a len cap (m + 1) ∧ w.grownBy w' (some b) := by
  have hnz : ¬ n = 0 := by omega
  go_enter Tryd.func51, Tryd.ntmps51
  go_wp2_with fail
  refine (byte_ctx B b len cap m a w h hm).mono ?_
  rintro e w1 ⟨v, hv, rfl, hc, hg⟩
  have hml := Nat.mod_lt v (show 0 < n by omega)
  have e1 : (v : Int) % (n : Int) = ((v % n : Nat) : Int) := by simp
  have e2 : (v : Int).tmod (n : Int) = ((v % n : Nat) : Int) := by rw [Int.tmod_eq_emod_of_nonneg (by omega)]; exact e1
  generalize v % n = r at *
  go_wp2
  go_ret
  exact ⟨r, hml, rfl, hc, hg⟩

theorem next_300 (B b len cap m : Nat) (a : Option Addr) (w : World) (h : Ctx w B b a len cap m) (hm : m ≤ 99000) :
    Calls Tryd.prog 51 #[.pointer (some ⟨b, 0, none⟩), .int .i64 300] w fun e w' => ∃ v : Nat, v < 300 ∧ e = .returned (.int .i64 v) ∧ Ctx w' B b a len cap (m + 3) ∧ w.grownBy w' (some b) := by
  go_enter Tryd.func51, Tryd.ntmps51
  go_wp2_with fail
  refine (byte_ctx B b len cap m a w h (by omega)).mono ?_
  rintro e w1 ⟨x, hx, rfl, hc1, hg1⟩
  go_wp2_with fail
  refine (byte_ctx B b len cap _ a _ hc1 (by omega)).mono ?_
  rintro e w2 ⟨y, hy, rfl, hc2, hg2⟩
  go_wp2_with fail
  refine (byte_ctx B b len cap _ a _ hc2 (by omega)).mono ?_
  rintro e w3 ⟨z, hz, rfl, hc3, hg3⟩
  have hg := grownBy_trans (grownBy_trans hg1 hg2) hg3
  clear hg1 hg2 hg3 hc1 hc2 h
  go_wp2
  go_ret
  refine ⟨(x * 65536 + y * 256 + z) % 300, by omega, congrArg (fun x => Ending.returned (.int .i64 x)) ?_, hc3, hg⟩
  omega

theorem word_ctx (B b len cap m : Nat) (a : Option Addr) (w : World) (h : Ctx w B b a len cap m) (hm : m ≤ 99000) :
    Calls Tryd.prog 43 #[.pointer (some ⟨b, 0, none⟩)] w fun e w' => ∃ v : Nat, v < 4294967296 ∧ e = .returned (.int .i64 v) ∧ Ctx w' B b a len cap (m + 4) ∧ w.grownBy w' (some b) := by
  go_enter Tryd.func43, Tryd.ntmps43
  go_wp2_with fail
  refine (byte_ctx B b len cap m a w h (by omega)).mono ?_
  rintro e w1 ⟨x, hx, rfl, hc1, hg1⟩
  go_wp2_with fail
  refine (byte_ctx B b len cap _ a _ hc1 (by omega)).mono ?_
  rintro e w2 ⟨y, hy, rfl, hc2, hg2⟩
  go_wp2_with fail
  refine (byte_ctx B b len cap _ a _ hc2 (by omega)).mono ?_
  rintro e w3 ⟨z, hz, rfl, hc3, hg3⟩
  go_wp2_with fail
  refine (byte_ctx B b len cap _ a _ hc3 (by omega)).mono ?_
  rintro e w4 ⟨u, hu, rfl, hc4, hg4⟩
  have hg := grownBy_trans (grownBy_trans (grownBy_trans hg1 hg2) hg3) hg4
  clear hg1 hg2 hg3 hg4 hc1 hc2 hc3 h
  go_wp2
  go_ret
  refine ⟨x + 256 * y + 65536 * z + 16777216 * u, by omega, congrArg (fun x => Ending.returned (.int .i64 x)) ?_, hc4, hg⟩
  omega
end Go.Proofs.YtdkiamcjicbmnaaDoor

namespace Go.Proofs.YtdkiamcjicbmnaaDoor
open Go.RowKit
set_option linter.unusedVariables false

theorem grownBy_below {w w1 w2 : World} {r : Option Nat} (h : w.grownBy w1 r) (hb : Below w1.heap.size w1 w2) : w.grownBy w2 r :=
  ⟨hb.os.trans h.os, hb.tape.trans h.tape, hb.output.trans h.output, Nat.le_trans h.size hb.size, fun i hi hne => (hb.block i (Nat.lt_of_lt_of_le hi h.size)).trans (h.block i hi hne)⟩
theorem grownBy_cell {w w1 : World} {r : Option Nat} (h : w.grownBy w1 r) (nb o : Nat) (u : Value) (hn : w.heap.size ≤ nb) : w.grownBy (w1.setCell ⟨nb, o, none⟩ u) r :=
  grownBy_own h grownBy_setCell (fun i e => by injection e with e; omega)
theorem grownBy_refl (w : World) (r : Option Nat) : w.grownBy w r := ⟨rfl, rfl, rfl, Nat.le_refl _, fun _ _ _ => rfl⟩
theorem Ctx.below {w w' : World} {B b len cap m : Nat} {a : Option Addr} (h : Ctx w B b a len cap m) (hb : Below w.heap.size w w') : Ctx w' B b a len cap m := by
  obtain ⟨⟨p, sd, hp, hs⟩, h1, h2, h3⟩ := h
  refine ⟨⟨p, sd, hp, ?_⟩, h1.below (hb.mono (by omega)), h2, Nat.lt_of_lt_of_le h3 hb.size⟩
  have hc : ∀ o, w'.cell? ⟨b, o, none⟩ = w.cell? ⟨b, o, none⟩ := fun o => hb.cell (p := ⟨b, o, none⟩) h3
  have hf : ∀ o, w'.frozen? ⟨b, o, none⟩ = w.frozen? ⟨b, o, none⟩ := fun o => hb.frozen (p := ⟨b, o, none⟩) h3
  exact ⟨(hc 0).trans hs.c0, (hc 1).trans hs.c1, (hc 2).trans hs.c2, (hf 1).trans hs.f1, (hf 2).trans hs.f2, hs.p0, hs.p1, hs.s0, hs.s1⟩
theorem Ctx.cell {w : World} {B b len cap m : Nat} {a : Option Addr} (h : Ctx w B b a len cap m) (nb o : Nat) (u : Value) (hn : b < nb) : Ctx (w.setCell ⟨nb, o, none⟩ u) B b a len cap m := by
  obtain ⟨⟨p, sd, hp, hs⟩, h1, h2, h3⟩ := h
  have hB : B ≤ nb := by omega
  refine ⟨⟨p, sd, hp, ?_⟩, h1.below ((Below.refl _ _).setCell (p := ⟨nb, o, none⟩) hB u), h2, by simpa using h3⟩
  exact ⟨(World.cell?_setCell_other _ _ _ _ (by simp <;> omega)).trans hs.c0, (World.cell?_setCell_other _ _ _ _ (by simp <;> omega)).trans hs.c1, (World.cell?_setCell_other _ _ _ _ (by simp <;> omega)).trans hs.c2,
    (World.frozen?_setCell _ _ _ _).trans hs.f1, (World.frozen?_setCell _ _ _ _).trans hs.f2, hs.p0, hs.p1, hs.s0, hs.s1⟩
theorem Five.grown {w w' : World} {d : Nat} {row : Option Nat} {v0 v1 v2 v3 v4 : Int} (h : Five w d v0 v1 v2 v3 v4) (hg : w.grownBy w' row) (hd : d < w.heap.size) (hne : some d ≠ row) : Five w' d v0 v1 v2 v3 v4 :=
  ⟨(World.cell?_of_block (hg.block d hd hne)).trans h.c0, (World.cell?_of_block (hg.block d hd hne)).trans h.c1, (World.cell?_of_block (hg.block d hd hne)).trans h.c2, (World.cell?_of_block (hg.block d hd hne)).trans h.c3, (World.cell?_of_block (hg.block d hd hne)).trans h.c4,
   (World.frozen?_of_block (hg.block d hd hne)).trans h.f0, (World.frozen?_of_block (hg.block d hd hne)).trans h.f1, (World.frozen?_of_block (hg.block d hd hne)).trans h.f2, (World.frozen?_of_block (hg.block d hd hne)).trans h.f3, (World.frozen?_of_block (hg.block d hd hne)).trans h.f4⟩

theorem next_4096 (B b len cap m : Nat) (a : Option Addr) (w : World) (h : Ctx w B b a len cap m) (hm : m ≤ 99000) :
    Calls Tryd.prog 51 #[.pointer (some ⟨b, 0, none⟩), .int .i64 4096] w fun e w' => ∃ v : Nat, v < 4096 ∧ e = .returned (.int .i64 v) ∧ Ctx w' B b a len cap (m + 3) ∧ w.grownBy w' (some b) := by
  go_enter Tryd.func51, Tryd.ntmps51
  go_wp2_with fail
  refine (byte_ctx B b len cap m a w h (by omega)).mono ?_
  rintro e w1 ⟨x, hx, rfl, hc1, hg1⟩
  go_wp2_with fail
  refine (byte_ctx B b len cap _ a _ hc1 (by omega)).mono ?_
  rintro e w2 ⟨y, hy, rfl, hc2, hg2⟩
  go_wp2_with fail
  refine (byte_ctx B b len cap _ a _ hc2 (by omega)).mono ?_
  rintro e w3 ⟨z, hz, rfl, hc3, hg3⟩
  have hg := grownBy_trans (grownBy_trans hg1 hg2) hg3
  clear hg1 hg2 hg3 hc1 hc2 h
  go_wp2
  go_ret
  refine ⟨(x * 65536 + y * 256 + z) % 4096, by omega, congrArg (fun x => Ending.returned (.int .i64 x)) ?_, hc3, hg⟩
  omega
theorem next_1048576 (B b len cap m : Nat) (a : Option Addr) (w : World) (h : Ctx w B b a len cap m) (hm : m ≤ 99000) :
    Calls Tryd.prog 51 #[.pointer (some ⟨b, 0, none⟩), .int .i64 1048576] w fun e w' => ∃ v : Nat, v < 1048576 ∧ e = .returned (.int .i64 v) ∧ Ctx w' B b a len cap (m + 3) ∧ w.grownBy w' (some b) := by
  go_enter Tryd.func51, Tryd.ntmps51
  go_wp2_with fail
  refine (byte_ctx B b len cap m a w h (by omega)).mono ?_
  rintro e w1 ⟨x, hx, rfl, hc1, hg1⟩
  go_wp2_with fail
  refine (byte_ctx B b len cap _ a _ hc1 (by omega)).mono ?_
  rintro e w2 ⟨y, hy, rfl, hc2, hg2⟩
  go_wp2_with fail
  refine (byte_ctx B b len cap _ a _ hc2 (by omega)).mono ?_
  rintro e w3 ⟨z, hz, rfl, hc3, hg3⟩
  have hg := grownBy_trans (grownBy_trans hg1 hg2) hg3
  clear hg1 hg2 hg3 hc1 hc2 h
  go_wp2
  go_ret
  refine ⟨(x * 65536 + y * 256 + z) % 1048576, by omega, congrArg (fun x => Ending.returned (.int .i64 x)) ?_, hc3, hg⟩
  omega
theorem imm_1 (B b len cap m : Nat) (a : Option Addr) (w : World) (h : Ctx w B b a len cap m) (hm : m ≤ 90000) :
    Calls Tryd.prog 52 #[.pointer (some ⟨b, 0, none⟩), .int .i64 1] w fun e w' => ∃ v : Int, okI 1 v ∧ e = .returned (.int .i64 v) ∧ Ctx w' B b a len cap (m + 10) ∧ w.grownBy w' (some b) := by
  go_enter Tryd.func52, Tryd.ntmps52
  go_wp2_with fail
  refine (next_1048576 B b len cap m a w h (by omega)).mono ?_
  rintro e w1 ⟨x, hx, rfl, hc1, hg1⟩
  have hx1 : (x : Int) < 1048576 := by omega
  go_wp2_with fail
  refine (next_small B b len cap _ 9 a _ hc1 (by omega) (by omega) (by omega)).mono ?_
  rintro e w2 ⟨y, hy, rfl, hc2, hg2⟩
  have hy1 : (y : Int) < 9 := by omega
  clear h hc1
  go_wp2_with fail
  refine (next_small B b len cap _ 4 a _ (hc2.alloc _) (by omega) (by omega) (by omega)).mono ?_
  rintro e w3 ⟨v, hv, rfl, hc, hg⟩
  have hbw := hc2.bw
  have hkeep := World.cell?_of_block (a := ⟨w2.heap.size, v, none⟩) (hg.block w2.heap.size (by simp) (by intro e; injection e; omega))
  obtain ⟨q, hin, hq⟩ : ∃ q : Int, okI 1 q ∧ w3.cell? ⟨w2.heap.size, v, none⟩ = some (.int .i64 q) := by
    rw [hkeep]
    rcases (show v = 0 ∨ v = 1 ∨ v = 2 ∨ v = 3 by omega) with rfl | rfl | rfl | rfl
    · exact ⟨4096 * ((x : Int) - 524288), by simp only [okI]; simp <;> omega, by simp⟩
    · exact ⟨4096 * (y : Int), by simp only [okI]; simp <;> omega, by simp⟩
    · exact ⟨-2147483648, by simp [okI], by simp⟩
    · exact ⟨2147479552, by simp [okI], by simp⟩
  have hq' : w3.cell? ⟨w2.heap.size, 0 + v, none⟩ = some (.int .i64 q) := by rw [Nat.zero_add]; exact hq
  have hg' : w.grownBy w3 (some b) := grownBy_trans (grownBy_trans (grownBy_trans hg1 hg2) (World.grownBy_alloc w2 _ _)) hg
  clear hkeep hg hg1 hg2 hc2 hx hx1 hy hy1
  go_wp2
  go_ret
  exact ⟨q, hin, rfl, hc.mono (by omega), hg'⟩
theorem imm_2 (B b len cap m : Nat) (a : Option Addr) (w : World) (h : Ctx w B b a len cap m) (hm : m ≤ 90000) :
    Calls Tryd.prog 52 #[.pointer (some ⟨b, 0, none⟩), .int .i64 2] w fun e w' => ∃ v : Int, okI 2 v ∧ e = .returned (.int .i64 v) ∧ Ctx w' B b a len cap (m + 10) ∧ w.grownBy w' (some b) := by
  go_enter Tryd.func52, Tryd.ntmps52
  go_wp2_with fail
  refine (next_1048576 B b len cap m a w h (by omega)).mono ?_
  rintro e w1 ⟨x, hx, rfl, hc1, hg1⟩
  have hx1 : (x : Int) < 1048576 := by omega
  go_wp2_with fail
  refine (next_small B b len cap _ 60 a _ hc1 (by omega) (by omega) (by omega)).mono ?_
  rintro e w2 ⟨y, hy, rfl, hc2, hg2⟩
  have hy1 : (y : Int) < 60 := by omega
  clear h hc1
  go_wp2_with fail
  refine (next_small B b len cap _ 4 a _ (hc2.alloc _) (by omega) (by omega) (by omega)).mono ?_
  rintro e w3 ⟨v, hv, rfl, hc, hg⟩
  have hbw := hc2.bw
  have hkeep := World.cell?_of_block (a := ⟨w2.heap.size, v, none⟩) (hg.block w2.heap.size (by simp) (by intro e; injection e; omega))
  obtain ⟨q, hin, hq⟩ : ∃ q : Int, okI 2 q ∧ w3.cell? ⟨w2.heap.size, v, none⟩ = some (.int .i64 q) := by
    rw [hkeep]
    rcases (show v = 0 ∨ v = 1 ∨ v = 2 ∨ v = 3 by omega) with rfl | rfl | rfl | rfl
    · exact ⟨2 * ((x : Int) - 524288), by simp only [okI]; simp <;> omega, by simp⟩
    · exact ⟨4 * (y : Int) - 100, by simp only [okI]; simp <;> omega, by simp⟩
    · exact ⟨-1048576, by simp [okI], by simp⟩
    · exact ⟨1048574, by simp [okI], by simp⟩
  have hq' : w3.cell? ⟨w2.heap.size, 0 + v, none⟩ = some (.int .i64 q) := by rw [Nat.zero_add]; exact hq
  have hg' : w.grownBy w3 (some b) := grownBy_trans (grownBy_trans (grownBy_trans hg1 hg2) (World.grownBy_alloc w2 _ _)) hg
  clear hkeep hg hg1 hg2 hc2 hx hx1 hy hy1
  go_wp2
  go_ret
  exact ⟨q, hin, rfl, hc.mono (by omega), hg'⟩
theorem imm_3 (B b len cap m : Nat) (a : Option Addr) (w : World) (h : Ctx w B b a len cap m) (hm : m ≤ 90000) :
    Calls Tryd.prog 52 #[.pointer (some ⟨b, 0, none⟩), .int .i64 3] w fun e w' => ∃ v : Int, okI 3 v ∧ e = .returned (.int .i64 v) ∧ Ctx w' B b a len cap (m + 10) ∧ w.grownBy w' (some b) := by
  go_enter Tryd.func52, Tryd.ntmps52
  go_wp2_with fail
  refine (next_4096 B b len cap m a w h (by omega)).mono ?_
  rintro e w1 ⟨x, hx, rfl, hc1, hg1⟩
  have hx1 : (x : Int) < 4096 := by omega
  go_wp2_with fail
  refine (next_small B b len cap _ 40 a _ hc1 (by omega) (by omega) (by omega)).mono ?_
  rintro e w2 ⟨y, hy, rfl, hc2, hg2⟩
  have hy1 : (y : Int) < 40 := by omega
  clear h hc1
  go_wp2_with fail
  refine (next_small B b len cap _ 4 a _ (hc2.alloc _) (by omega) (by omega) (by omega)).mono ?_
  rintro e w3 ⟨v, hv, rfl, hc, hg⟩
  have hbw := hc2.bw
  have hkeep := World.cell?_of_block (a := ⟨w2.heap.size, v, none⟩) (hg.block w2.heap.size (by simp) (by intro e; injection e; omega))
  obtain ⟨q, hin, hq⟩ : ∃ q : Int, okI 3 q ∧ w3.cell? ⟨w2.heap.size, v, none⟩ = some (.int .i64 q) := by
    rw [hkeep]
    rcases (show v = 0 ∨ v = 1 ∨ v = 2 ∨ v = 3 by omega) with rfl | rfl | rfl | rfl
    · exact ⟨(x : Int) - 2048, by simp only [okI]; simp <;> omega, by simp⟩
    · exact ⟨(y : Int) - 8, by simp only [okI]; simp <;> omega, by simp⟩
    · exact ⟨-2048, by simp [okI], by simp⟩
    · exact ⟨2047, by simp [okI], by simp⟩
  have hq' : w3.cell? ⟨w2.heap.size, 0 + v, none⟩ = some (.int .i64 q) := by rw [Nat.zero_add]; exact hq
  have hg' : w.grownBy w3 (some b) := grownBy_trans (grownBy_trans (grownBy_trans hg1 hg2) (World.grownBy_alloc w2 _ _)) hg
  clear hkeep hg hg1 hg2 hc2 hx hx1 hy hy1
  go_wp2
  go_ret
  exact ⟨q, hin, rfl, hc.mono (by omega), hg'⟩
theorem imm_4 (B b len cap m : Nat) (a : Option Addr) (w : World) (h : Ctx w B b a len cap m) (hm : m ≤ 90000) :
    Calls Tryd.prog 52 #[.pointer (some ⟨b, 0, none⟩), .int .i64 4] w fun e w' => ∃ v : Int, okI 4 v ∧ e = .returned (.int .i64 v) ∧ Ctx w' B b a len cap (m + 10) ∧ w.grownBy w' (some b) := by
  go_enter Tryd.func52, Tryd.ntmps52
  go_wp2_with fail
  refine (next_4096 B b len cap m a w h (by omega)).mono ?_
  rintro e w1 ⟨x, hx, rfl, hc1, hg1⟩
  have hx1 : (x : Int) < 4096 := by omega
  go_wp2_with fail
  refine (next_small B b len cap _ 40 a _ hc1 (by omega) (by omega) (by omega)).mono ?_
  rintro e w2 ⟨y, hy, rfl, hc2, hg2⟩
  have hy1 : (y : Int) < 40 := by omega
  clear h hc1
  go_wp2_with fail
  refine (next_small B b len cap _ 4 a _ (hc2.alloc _) (by omega) (by omega) (by omega)).mono ?_
  rintro e w3 ⟨v, hv, rfl, hc, hg⟩
  have hbw := hc2.bw
  have hkeep := World.cell?_of_block (a := ⟨w2.heap.size, v, none⟩) (hg.block w2.heap.size (by simp) (by intro e; injection e; omega))
  obtain ⟨q, hin, hq⟩ : ∃ q : Int, okI 4 q ∧ w3.cell? ⟨w2.heap.size, v, none⟩ = some (.int .i64 q) := by
    rw [hkeep]
    rcases (show v = 0 ∨ v = 1 ∨ v = 2 ∨ v = 3 by omega) with rfl | rfl | rfl | rfl
    · exact ⟨2 * ((x : Int) - 2048), by simp only [okI]; simp <;> omega, by simp⟩
    · exact ⟨4 * (y : Int) - 60, by simp only [okI]; simp <;> omega, by simp⟩
    · exact ⟨-4096, by simp [okI], by simp⟩
    · exact ⟨4094, by simp [okI], by simp⟩
  have hq' : w3.cell? ⟨w2.heap.size, 0 + v, none⟩ = some (.int .i64 q) := by rw [Nat.zero_add]; exact hq
  have hg' : w.grownBy w3 (some b) := grownBy_trans (grownBy_trans (grownBy_trans hg1 hg2) (World.grownBy_alloc w2 _ _)) hg
  clear hkeep hg hg1 hg2 hc2 hx hx1 hy hy1
  go_wp2
  go_ret
  exact ⟨q, hin, rfl, hc.mono (by omega), hg'⟩
theorem imm_5 (B b len cap m : Nat) (a : Option Addr) (w : World) (h : Ctx w B b a len cap m) (hm : m ≤ 90000) :
    Calls Tryd.prog 52 #[.pointer (some ⟨b, 0, none⟩), .int .i64 5] w fun e w' => ∃ v : Int, okI 5 v ∧ e = .returned (.int .i64 v) ∧ Ctx w' B b a len cap (m + 10) ∧ w.grownBy w' (some b) := by
  go_enter Tryd.func52, Tryd.ntmps52
  go_wp2_with fail
  refine (next_4096 B b len cap m a w h (by omega)).mono ?_
  rintro e w1 ⟨x, hx, rfl, hc1, hg1⟩
  have hx1 : (x : Int) < 4096 := by omega
  go_wp2_with fail
  refine (next_small B b len cap _ 40 a _ hc1 (by omega) (by omega) (by omega)).mono ?_
  rintro e w2 ⟨y, hy, rfl, hc2, hg2⟩
  have hy1 : (y : Int) < 40 := by omega
  clear h hc1
  go_wp2_with fail
  refine (next_small B b len cap _ 4 a _ (hc2.alloc _) (by omega) (by omega) (by omega)).mono ?_
  rintro e w3 ⟨v, hv, rfl, hc, hg⟩
  have hbw := hc2.bw
  have hkeep := World.cell?_of_block (a := ⟨w2.heap.size, v, none⟩) (hg.block w2.heap.size (by simp) (by intro e; injection e; omega))
  obtain ⟨q, hin, hq⟩ : ∃ q : Int, okI 5 q ∧ w3.cell? ⟨w2.heap.size, v, none⟩ = some (.int .i64 q) := by
    rw [hkeep]
    rcases (show v = 0 ∨ v = 1 ∨ v = 2 ∨ v = 3 by omega) with rfl | rfl | rfl | rfl
    · exact ⟨(x : Int) - 2048, by simp only [okI]; simp <;> omega, by simp⟩
    · exact ⟨(y : Int) - 8, by simp only [okI]; simp <;> omega, by simp⟩
    · exact ⟨-2048, by simp [okI], by simp⟩
    · exact ⟨2047, by simp [okI], by simp⟩
  have hq' : w3.cell? ⟨w2.heap.size, 0 + v, none⟩ = some (.int .i64 q) := by rw [Nat.zero_add]; exact hq
  have hg' : w.grownBy w3 (some b) := grownBy_trans (grownBy_trans (grownBy_trans hg1 hg2) (World.grownBy_alloc w2 _ _)) hg
  clear hkeep hg hg1 hg2 hc2 hx hx1 hy hy1
  go_wp2
  go_ret
  exact ⟨q, hin, rfl, hc.mono (by omega), hg'⟩
theorem imm_6 (B b len cap m : Nat) (a : Option Addr) (w : World) (h : Ctx w B b a len cap m) (hm : m ≤ 90000) :
    Calls Tryd.prog 52 #[.pointer (some ⟨b, 0, none⟩), .int .i64 6] w fun e w' => ∃ v : Int, okI 6 v ∧ e = .returned (.int .i64 v) ∧ Ctx w' B b a len cap (m + 10) ∧ w.grownBy w' (some b) := by
  go_enter Tryd.func52, Tryd.ntmps52
  go_wp2_with fail
  refine (next_small B b len cap m 64 a w h (by omega) (by omega) (by omega)).mono ?_
  rintro e w1 ⟨x, hx, rfl, hc1, hg1⟩
  clear h
  go_wp2
  go_ret
  exact ⟨x, by simp only [okI]; simp <;> omega, rfl, hc1.mono (by omega), hg1⟩
theorem imm_7 (B b len cap m : Nat) (a : Option Addr) (w : World) (h : Ctx w B b a len cap m) (hm : m ≤ 90000) :
    Calls Tryd.prog 52 #[.pointer (some ⟨b, 0, none⟩), .int .i64 7] w fun e w' => ∃ v : Int, okI 7 v ∧ e = .returned (.int .i64 v) ∧ Ctx w' B b a len cap (m + 10) ∧ w.grownBy w' (some b) := by
  go_enter Tryd.func52, Tryd.ntmps52
  go_wp2_with fail
  refine (next_small B b len cap m 32 a w h (by omega) (by omega) (by omega)).mono ?_
  rintro e w1 ⟨x, hx, rfl, hc1, hg1⟩
  clear h
  go_wp2
  go_ret
  exact ⟨x, by simp only [okI]; simp <;> omega, rfl, hc1.mono (by omega), hg1⟩
theorem imm_8 (B b len cap m : Nat) (a : Option Addr) (w : World) (h : Ctx w B b a len cap m) (hm : m ≤ 90000) :
    Calls Tryd.prog 52 #[.pointer (some ⟨b, 0, none⟩), .int .i64 8] w fun e w' => ∃ v : Int, okI 8 v ∧ e = .returned (.int .i64 v) ∧ Ctx w' B b a len cap (m + 10) ∧ w.grownBy w' (some b) := by
  go_enter Tryd.func52, Tryd.ntmps52
  go_wp2
  go_ret
  exact ⟨0, by simp [okI], rfl, h.mono (by omega), grownBy_refl _ _⟩
theorem imm_9 (B b len cap m : Nat) (a : Option Addr) (w : World) (h : Ctx w B b a len cap m) (hm : m ≤ 90000) :
    Calls Tryd.prog 52 #[.pointer (some ⟨b, 0, none⟩), .int .i64 9] w fun e w' => ∃ v : Int, okI 9 v ∧ e = .returned (.int .i64 v) ∧ Ctx w' B b a len cap (m + 10) ∧ w.grownBy w' (some b) := by
  go_enter Tryd.func52, Tryd.ntmps52
  go_wp2
  go_ret
  exact ⟨0, by simp [okI], rfl, h.mono (by omega), grownBy_refl _ _⟩
theorem imm_ctx (f : Int) (f0 : 1 ≤ f) (f1 : f ≤ 9) (B b len cap m : Nat) (a : Option Addr) (w : World) (h : Ctx w B b a len cap m) (hm : m ≤ 90000) :
    Calls Tryd.prog 52 #[.pointer (some ⟨b, 0, none⟩), .int .i64 f] w fun e w' => ∃ v : Int, okI f v ∧ e = .returned (.int .i64 v) ∧ Ctx w' B b a len cap (m + 10) ∧ w.grownBy w' (some b) := by
  rcases (show f = 1 ∨ f = 2 ∨ f = 3 ∨ f = 4 ∨ f = 5 ∨ f = 6 ∨ f = 7 ∨ f = 8 ∨ f = 9 by omega) with rfl | rfl | rfl | rfl | rfl | rfl | rfl | rfl | rfl
  · exact imm_1 B b len cap m a w h hm
  · exact imm_2 B b len cap m a w h hm
  · exact imm_3 B b len cap m a w h hm
  · exact imm_4 B b len cap m a w h hm
  · exact imm_5 B b len cap m a w h hm
  · exact imm_6 B b len cap m a w h hm
  · exact imm_7 B b len cap m a w h hm
  · exact imm_8 B b len cap m a w h hm
  · exact imm_9 B b len cap m a w h hm
end Go.Proofs.YtdkiamcjicbmnaaDoor

namespace Go.Proofs.YtdkiamcjicbmnaaDoor
open Go.RowKit
set_option linter.unusedVariables false

theorem drawn_right (f rd r1 r2 im : Int) (f0 : 1 ≤ f) (f1 : f ≤ 9) (h1 : 0 ≤ rd ∧ rd < 32) (h2 : 0 ≤ r1 ∧ r1 < 32) (h3 : 0 ≤ r2 ∧ r2 < 32) (hi : okI f im) :
    rightF f (if f = 4 ∨ f = 5 ∨ f = 9 then 0 else rd) (if f = 1 ∨ f = 2 ∨ f = 9 then 0 else r1) (if f = 4 ∨ f = 5 ∨ f = 8 then r2 else 0) im = true := by
  have b1 : regB rd = true := decide_eq_true (by omega)
  have b2 : regB r1 = true := decide_eq_true (by omega)
  have b3 : regB r2 = true := decide_eq_true (by omega)
  have hk : okB f im = true := okB_t (by omega) (by omega) hi
  rcases (show f = 1 ∨ f = 2 ∨ f = 3 ∨ f = 4 ∨ f = 5 ∨ f = 6 ∨ f = 7 ∨ f = 8 ∨ f = 9 by omega) with rfl | rfl | rfl | rfl | rfl | rfl | rfl | rfl | rfl
  · simp [rightF, b1, hk]
  · simp [rightF, b1, hk]
  · simp [rightF, b1, b2, hk]
  · simp [rightF, b2, b3, hk]
  · simp [rightF, b2, b3, hk]
  · simp [rightF, b1, b2, hk]
  · simp [rightF, b1, b2, hk]
  · have : im = 0 := hi
    simp [rightF, b1, b2, b3, this]
  · have : im = 0 := hi
    simp [rightF, this]

theorem shF2 (op f c g h : Int) (hs : shT op = (f, c, g, h)) : ∀ w, (Instr.field 36 (shV (shT op)) 0).run Tryd.prog w = .ok (.int .i64 f) w := fun w => by
  rw [hs]
  unfold shV
  kernel_rfl

set_option maxRecDepth 100000 in
set_option maxHeartbeats 8000000 in
theorem instr_ctx (B b len cap m : Nat) (a : Option Addr) (w : World) (h : Ctx w B b a len cap m) (hm : m ≤ 80000) :
    Calls Tryd.prog 29 #[.pointer (some ⟨b, 0, none⟩)] w fun e w' => ∃ op rd r1 r2 im : Int, rightB op rd r1 r2 im = true ∧ e = .returned (.agg #[.int .i64 op, .int .i64 rd, .int .i64 r1, .int .i64 r2, .int .i64 im]) ∧ Ctx w' B b a len cap (m + 100) ∧ w.grownBy w' (some b) := by
  have hbw := h.bw
  go_enter Tryd.func29, Tryd.ntmps29
  go_wp2_with fail
  refine (next_small B b len cap m 64 a _ (h.alloc _) (by omega) (by omega) (by omega)).mono ?_
  rintro e w1 ⟨o, ho, rfl, hc1, hg1⟩
  have ho1 : (o : Int) < 64 := by omega
  have R1 : Five w1 w.heap.size 0 0 0 0 0 := Five.grown (w := w.alloc (.cells #[.int .i64 0, .int .i64 0, .int .i64 0, .int .i64 0, .int .i64 0] 24)) (by constructor <;> simp) hg1 (by simp) (by intro e; injection e; omega)
  have z1 : w.heap.size + 1 ≤ w1.heap.size := by have := hg1.size; simp at this; omega
  have G1 : w.grownBy w1 (some b) := grownBy_trans (World.grownBy_alloc w _ _) hg1
  clear hg1 h
  go_wp2_with fail
  refine (next_small B b len cap _ 32 a _ hc1 (by omega) (by omega) (by omega)).mono ?_
  rintro e w2 ⟨rd, hrd, rfl, hc2, hg2⟩
  have R2 := R1.grown hg2 (by omega) (by intro e; injection e; omega)
  have z2 := Nat.le_trans z1 hg2.size
  have G2 := grownBy_trans G1 hg2
  clear hg2 G1 R1 z1 hc1
  go_wp2_with fail
  refine (next_small B b len cap _ 32 a _ hc2 (by omega) (by omega) (by omega)).mono ?_
  rintro e w3 ⟨r1, hr1, rfl, hc3, hg3⟩
  have R3 := R2.grown hg3 (by omega) (by intro e; injection e; omega)
  have z3 := Nat.le_trans z2 hg3.size
  have G3 := grownBy_trans G2 hg3
  clear hg3 G2 R2 z2 hc2
  go_wp2_with fail
  refine (next_small B b len cap _ 32 a _ hc3 (by omega) (by omega) (by omega)).mono ?_
  rintro e w4 ⟨r2, hr2, rfl, hc4, hg4⟩
  have R4 := R3.grown hg4 (by omega) (by intro e; injection e; omega)
  have z4 := Nat.le_trans z3 hg4.size
  have G4 := grownBy_trans G3 hg4
  clear hg4 G3 R3 z3 hc3
  have hop0 : 1 ≤ 1 + (o : Int) := by omega
  have hop1 : 1 + (o : Int) ≤ 64 := by omega
  generalize hop : 1 + (o : Int) = op at *
  clear hop ho ho1
  obtain ⟨⟨f, c, g, hh⟩, hs⟩ : ∃ s, s = shT op := ⟨_, rfl⟩
  have hok : shOK f c g hh = true := by
    have := shT_ok op hop0 hop1
    rw [← hs] at this
    exact this
  obtain ⟨f0, f1, _⟩ := sh_bounds hok
  have HS : Hid (shT op = (f, c, g, hh)) := hs.symm
  have hsf := shF2 op f c g hh hs.symm
  have HRT : Hid (∀ im, okI f im → rightB op (if f = 4 ∨ f = 5 ∨ f = 9 then 0 else (rd : Int)) (if f = 1 ∨ f = 2 ∨ f = 9 then 0 else (r1 : Int)) (if f = 4 ∨ f = 5 ∨ f = 8 then (r2 : Int) else 0) im = true) := by
    intro im hi
    unfold rightB
    rw [HS.out, drawn_right f rd r1 r2 im f0 f1 (by omega) (by omega) (by omega) hi, Bool.and_true]
    exact decide_eq_true ⟨hop0, hop1⟩
  clear hs hok
  go_wp2_with fail
  have hc5 := hc4.alloc (.cells #[.int .i64 op, .int .i64 (rd : Int), .int .i64 (r1 : Int), .int .i64 (r2 : Int), .int .i64 0] 24)
  have X5 : Five (w4.alloc (.cells #[.int .i64 op, .int .i64 (rd : Int), .int .i64 (r1 : Int), .int .i64 (r2 : Int), .int .i64 0] 24)) w4.heap.size op rd r1 r2 0 := by constructor <;> simp
  have R5 := R4.below ((Below.refl w4.heap.size w4).alloc (Nat.le_refl _) (.cells #[.int .i64 op, .int .i64 (rd : Int), .int .i64 (r1 : Int), .int .i64 (r2 : Int), .int .i64 0] 24)) (by omega)
  have G5 := grownBy_alloc1 G4 (.cells #[.int .i64 op, .int .i64 (rd : Int), .int .i64 (r1 : Int), .int .i64 (r2 : Int), .int .i64 0] 24)
  refine (specShC op _).mono ?_
  rintro e w6 ⟨rfl, hb6⟩
  have hc6 := hc5.below hb6
  have X6 := X5.below hb6 (by simp)
  have R6 := R5.below hb6 (by simp; omega)
  have G6 := grownBy_below G5 hb6
  have z6 : w4.heap.size + 1 ≤ w6.heap.size := by have := hb6.size; simp at this; omega
  clear hb6 hc5 X5 R5 G5 G4 R4 hc4
  obtain ⟨c0, c1, c2, c3, c4, f0', f1', f2', f3', f4'⟩ := X6
  have X6 : Hid (Five w6 w4.heap.size op rd r1 r2 0) := ⟨c0, c1, c2, c3, c4, f0', f1', f2', f3', f4'⟩
  have R6' : Hid (Five w6 w.heap.size 0 0 0 0 0) := R6
  have hc6' : Hid (Ctx w6 B b a len cap (m + 1 + 1 + 1 + 1)) := hc6
  have G6' : Hid (w.grownBy w6 (some b)) := G6
  clear R6 hc6 G6
  rcases (show f = 1 ∨ f = 2 ∨ f = 3 ∨ f = 4 ∨ f = 5 ∨ f = 6 ∨ f = 7 ∨ f = 8 ∨ f = 9 by omega) with rfl | rfl | rfl | rfl | rfl | rfl | rfl | rfl | rfl
  · have X7 := ((X6.out.set2 0).set3 0)
    have R7 := ((R6'.out.oth2 (d := w4.heap.size) (by omega) (.int .i64 0)).oth3 (d := w4.heap.size) (by omega) (.int .i64 0))
    have C7 := ((hc6'.out.cell w4.heap.size 2 (.int .i64 0) (by omega)).cell w4.heap.size 3 (.int .i64 0) (by omega))
    have G7 := (grownBy_cell (grownBy_cell G6'.out w4.heap.size 2 (.int .i64 0) (by omega)) w4.heap.size 3 (.int .i64 0) (by omega))
    clear X6 R6' hc6' G6' HS f0 f1
    have X7' : Hid _ := X7
    have R7' : Hid _ := R7
    have C7' : Hid _ := C7
    have G7' : Hid _ := G7
    clear X7 R7 C7 G7
    go_wp2_with fail
    refine (imm_1 B b len cap _ a _ C7'.out (by omega)).mono ?_
    rintro e w8 ⟨im, him, rfl, hc8, hg8⟩
    have z8 : w4.heap.size + 1 ≤ w8.heap.size := by have := hg8.size; (try simp at this); omega
    have X8 := X7'.out.grown hg8 (by first | omega | (simp; omega)) (by intro e; injection e; omega)
    obtain ⟨d0, d1, d2, d3, d4, g0, g1, g2, g3, g4⟩ := R7'.out.grown hg8 (by first | omega | (simp; omega)) (by intro e; injection e; omega)
    have G8 := grownBy_trans G7'.out hg8
    clear X7' R7' C7' G7' hg8 c0 c1 c2 c3 c4 f0' f1' f2' f3' f4'
    obtain ⟨c0, c1, c2, c3, c4, f0', f1', f2', f3', f4'⟩ := X8
    have hr : rightB op (rd : Int) 0 0 im = true := by
      have := HRT.out im him
      simpa using this
    have HR : Hid (rightB op (rd : Int) 0 0 im = true) := hr
    clear hr HRT him hsf
    go_wp2
    refine bodyPost_ret (v := .agg #[.int .i64 op, .int .i64 (rd : Int), .int .i64 0, .int .i64 0, .int .i64 im]) (by simp [results, Tryd.results29, go_sem, d0, d1, d2, d3, d4]) rfl ⟨op, (rd : Int), 0, 0, im, HR.out, rfl, ?_, ?_⟩
    · refine Ctx.mono (m := m + 1 + 1 + 1 + 1 + 10) ?_ (by omega)
      repeat (first | with_reducible exact hc8 | refine Ctx.cell ?_ _ _ _ (by omega))
    · repeat (first | with_reducible exact G8 | refine grownBy_cell ?_ _ _ _ (by omega))
  · have X7 := ((X6.out.set2 0).set3 0)
    have R7 := ((R6'.out.oth2 (d := w4.heap.size) (by omega) (.int .i64 0)).oth3 (d := w4.heap.size) (by omega) (.int .i64 0))
    have C7 := ((hc6'.out.cell w4.heap.size 2 (.int .i64 0) (by omega)).cell w4.heap.size 3 (.int .i64 0) (by omega))
    have G7 := (grownBy_cell (grownBy_cell G6'.out w4.heap.size 2 (.int .i64 0) (by omega)) w4.heap.size 3 (.int .i64 0) (by omega))
    clear X6 R6' hc6' G6' HS f0 f1
    have X7' : Hid _ := X7
    have R7' : Hid _ := R7
    have C7' : Hid _ := C7
    have G7' : Hid _ := G7
    clear X7 R7 C7 G7
    go_wp2_with fail
    refine (imm_2 B b len cap _ a _ C7'.out (by omega)).mono ?_
    rintro e w8 ⟨im, him, rfl, hc8, hg8⟩
    have z8 : w4.heap.size + 1 ≤ w8.heap.size := by have := hg8.size; (try simp at this); omega
    have X8 := X7'.out.grown hg8 (by first | omega | (simp; omega)) (by intro e; injection e; omega)
    obtain ⟨d0, d1, d2, d3, d4, g0, g1, g2, g3, g4⟩ := R7'.out.grown hg8 (by first | omega | (simp; omega)) (by intro e; injection e; omega)
    have G8 := grownBy_trans G7'.out hg8
    clear X7' R7' C7' G7' hg8 c0 c1 c2 c3 c4 f0' f1' f2' f3' f4'
    obtain ⟨c0, c1, c2, c3, c4, f0', f1', f2', f3', f4'⟩ := X8
    have hr : rightB op (rd : Int) 0 0 im = true := by
      have := HRT.out im him
      simpa using this
    have HR : Hid (rightB op (rd : Int) 0 0 im = true) := hr
    clear hr HRT him hsf
    go_wp2
    refine bodyPost_ret (v := .agg #[.int .i64 op, .int .i64 (rd : Int), .int .i64 0, .int .i64 0, .int .i64 im]) (by simp [results, Tryd.results29, go_sem, d0, d1, d2, d3, d4]) rfl ⟨op, (rd : Int), 0, 0, im, HR.out, rfl, ?_, ?_⟩
    · refine Ctx.mono (m := m + 1 + 1 + 1 + 1 + 10) ?_ (by omega)
      repeat (first | with_reducible exact hc8 | refine Ctx.cell ?_ _ _ _ (by omega))
    · repeat (first | with_reducible exact G8 | refine grownBy_cell ?_ _ _ _ (by omega))
  · have X7 := (X6.out.set3 0)
    have R7 := (R6'.out.oth3 (d := w4.heap.size) (by omega) (.int .i64 0))
    have C7 := (hc6'.out.cell w4.heap.size 3 (.int .i64 0) (by omega))
    have G7 := (grownBy_cell G6'.out w4.heap.size 3 (.int .i64 0) (by omega))
    clear X6 R6' hc6' G6' HS f0 f1
    have X7' : Hid _ := X7
    have R7' : Hid _ := R7
    have C7' : Hid _ := C7
    have G7' : Hid _ := G7
    clear X7 R7 C7 G7
    go_wp2_with fail
    refine (imm_3 B b len cap _ a _ C7'.out (by omega)).mono ?_
    rintro e w8 ⟨im, him, rfl, hc8, hg8⟩
    have z8 : w4.heap.size + 1 ≤ w8.heap.size := by have := hg8.size; (try simp at this); omega
    have X8 := X7'.out.grown hg8 (by first | omega | (simp; omega)) (by intro e; injection e; omega)
    obtain ⟨d0, d1, d2, d3, d4, g0, g1, g2, g3, g4⟩ := R7'.out.grown hg8 (by first | omega | (simp; omega)) (by intro e; injection e; omega)
    have G8 := grownBy_trans G7'.out hg8
    clear X7' R7' C7' G7' hg8 c0 c1 c2 c3 c4 f0' f1' f2' f3' f4'
    obtain ⟨c0, c1, c2, c3, c4, f0', f1', f2', f3', f4'⟩ := X8
    have hr : rightB op (rd : Int) (r1 : Int) 0 im = true := by
      have := HRT.out im him
      simpa using this
    have HR : Hid (rightB op (rd : Int) (r1 : Int) 0 im = true) := hr
    clear hr HRT him hsf
    go_wp2
    refine bodyPost_ret (v := .agg #[.int .i64 op, .int .i64 (rd : Int), .int .i64 (r1 : Int), .int .i64 0, .int .i64 im]) (by simp [results, Tryd.results29, go_sem, d0, d1, d2, d3, d4]) rfl ⟨op, (rd : Int), (r1 : Int), 0, im, HR.out, rfl, ?_, ?_⟩
    · refine Ctx.mono (m := m + 1 + 1 + 1 + 1 + 10) ?_ (by omega)
      repeat (first | with_reducible exact hc8 | refine Ctx.cell ?_ _ _ _ (by omega))
    · repeat (first | with_reducible exact G8 | refine grownBy_cell ?_ _ _ _ (by omega))
  · have X7 := (X6.out.set1 0)
    have R7 := (R6'.out.oth1 (d := w4.heap.size) (by omega) (.int .i64 0))
    have C7 := (hc6'.out.cell w4.heap.size 1 (.int .i64 0) (by omega))
    have G7 := (grownBy_cell G6'.out w4.heap.size 1 (.int .i64 0) (by omega))
    clear X6 R6' hc6' G6' HS f0 f1
    have X7' : Hid _ := X7
    have R7' : Hid _ := R7
    have C7' : Hid _ := C7
    have G7' : Hid _ := G7
    clear X7 R7 C7 G7
    go_wp2_with fail
    refine (imm_4 B b len cap _ a _ C7'.out (by omega)).mono ?_
    rintro e w8 ⟨im, him, rfl, hc8, hg8⟩
    have z8 : w4.heap.size + 1 ≤ w8.heap.size := by have := hg8.size; (try simp at this); omega
    have X8 := X7'.out.grown hg8 (by first | omega | (simp; omega)) (by intro e; injection e; omega)
    obtain ⟨d0, d1, d2, d3, d4, g0, g1, g2, g3, g4⟩ := R7'.out.grown hg8 (by first | omega | (simp; omega)) (by intro e; injection e; omega)
    have G8 := grownBy_trans G7'.out hg8
    clear X7' R7' C7' G7' hg8 c0 c1 c2 c3 c4 f0' f1' f2' f3' f4'
    obtain ⟨c0, c1, c2, c3, c4, f0', f1', f2', f3', f4'⟩ := X8
    have hr : rightB op 0 (r1 : Int) (r2 : Int) im = true := by
      have := HRT.out im him
      simpa using this
    have HR : Hid (rightB op 0 (r1 : Int) (r2 : Int) im = true) := hr
    clear hr HRT him hsf
    go_wp2
    refine bodyPost_ret (v := .agg #[.int .i64 op, .int .i64 0, .int .i64 (r1 : Int), .int .i64 (r2 : Int), .int .i64 im]) (by simp [results, Tryd.results29, go_sem, d0, d1, d2, d3, d4]) rfl ⟨op, 0, (r1 : Int), (r2 : Int), im, HR.out, rfl, ?_, ?_⟩
    · refine Ctx.mono (m := m + 1 + 1 + 1 + 1 + 10) ?_ (by omega)
      repeat (first | with_reducible exact hc8 | refine Ctx.cell ?_ _ _ _ (by omega))
    · repeat (first | with_reducible exact G8 | refine grownBy_cell ?_ _ _ _ (by omega))
  · have X7 := (X6.out.set1 0)
    have R7 := (R6'.out.oth1 (d := w4.heap.size) (by omega) (.int .i64 0))
    have C7 := (hc6'.out.cell w4.heap.size 1 (.int .i64 0) (by omega))
    have G7 := (grownBy_cell G6'.out w4.heap.size 1 (.int .i64 0) (by omega))
    clear X6 R6' hc6' G6' HS f0 f1
    have X7' : Hid _ := X7
    have R7' : Hid _ := R7
    have C7' : Hid _ := C7
    have G7' : Hid _ := G7
    clear X7 R7 C7 G7
    go_wp2_with fail
    refine (imm_5 B b len cap _ a _ C7'.out (by omega)).mono ?_
    rintro e w8 ⟨im, him, rfl, hc8, hg8⟩
    have z8 : w4.heap.size + 1 ≤ w8.heap.size := by have := hg8.size; (try simp at this); omega
    have X8 := X7'.out.grown hg8 (by first | omega | (simp; omega)) (by intro e; injection e; omega)
    obtain ⟨d0, d1, d2, d3, d4, g0, g1, g2, g3, g4⟩ := R7'.out.grown hg8 (by first | omega | (simp; omega)) (by intro e; injection e; omega)
    have G8 := grownBy_trans G7'.out hg8
    clear X7' R7' C7' G7' hg8 c0 c1 c2 c3 c4 f0' f1' f2' f3' f4'
    obtain ⟨c0, c1, c2, c3, c4, f0', f1', f2', f3', f4'⟩ := X8
    have hr : rightB op 0 (r1 : Int) (r2 : Int) im = true := by
      have := HRT.out im him
      simpa using this
    have HR : Hid (rightB op 0 (r1 : Int) (r2 : Int) im = true) := hr
    clear hr HRT him hsf
    go_wp2
    refine bodyPost_ret (v := .agg #[.int .i64 op, .int .i64 0, .int .i64 (r1 : Int), .int .i64 (r2 : Int), .int .i64 im]) (by simp [results, Tryd.results29, go_sem, d0, d1, d2, d3, d4]) rfl ⟨op, 0, (r1 : Int), (r2 : Int), im, HR.out, rfl, ?_, ?_⟩
    · refine Ctx.mono (m := m + 1 + 1 + 1 + 1 + 10) ?_ (by omega)
      repeat (first | with_reducible exact hc8 | refine Ctx.cell ?_ _ _ _ (by omega))
    · repeat (first | with_reducible exact G8 | refine grownBy_cell ?_ _ _ _ (by omega))
  · have X7 := (X6.out.set3 0)
    have R7 := (R6'.out.oth3 (d := w4.heap.size) (by omega) (.int .i64 0))
    have C7 := (hc6'.out.cell w4.heap.size 3 (.int .i64 0) (by omega))
    have G7 := (grownBy_cell G6'.out w4.heap.size 3 (.int .i64 0) (by omega))
    clear X6 R6' hc6' G6' HS f0 f1
    have X7' : Hid _ := X7
    have R7' : Hid _ := R7
    have C7' : Hid _ := C7
    have G7' : Hid _ := G7
    clear X7 R7 C7 G7
    go_wp2_with fail
    refine (imm_6 B b len cap _ a _ C7'.out (by omega)).mono ?_
    rintro e w8 ⟨im, him, rfl, hc8, hg8⟩
    have z8 : w4.heap.size + 1 ≤ w8.heap.size := by have := hg8.size; (try simp at this); omega
    have X8 := X7'.out.grown hg8 (by first | omega | (simp; omega)) (by intro e; injection e; omega)
    obtain ⟨d0, d1, d2, d3, d4, g0, g1, g2, g3, g4⟩ := R7'.out.grown hg8 (by first | omega | (simp; omega)) (by intro e; injection e; omega)
    have G8 := grownBy_trans G7'.out hg8
    clear X7' R7' C7' G7' hg8 c0 c1 c2 c3 c4 f0' f1' f2' f3' f4'
    obtain ⟨c0, c1, c2, c3, c4, f0', f1', f2', f3', f4'⟩ := X8
    have hr : rightB op (rd : Int) (r1 : Int) 0 im = true := by
      have := HRT.out im him
      simpa using this
    have HR : Hid (rightB op (rd : Int) (r1 : Int) 0 im = true) := hr
    clear hr HRT him hsf
    go_wp2
    refine bodyPost_ret (v := .agg #[.int .i64 op, .int .i64 (rd : Int), .int .i64 (r1 : Int), .int .i64 0, .int .i64 im]) (by simp [results, Tryd.results29, go_sem, d0, d1, d2, d3, d4]) rfl ⟨op, (rd : Int), (r1 : Int), 0, im, HR.out, rfl, ?_, ?_⟩
    · refine Ctx.mono (m := m + 1 + 1 + 1 + 1 + 10) ?_ (by omega)
      repeat (first | with_reducible exact hc8 | refine Ctx.cell ?_ _ _ _ (by omega))
    · repeat (first | with_reducible exact G8 | refine grownBy_cell ?_ _ _ _ (by omega))
  · have X7 := (X6.out.set3 0)
    have R7 := (R6'.out.oth3 (d := w4.heap.size) (by omega) (.int .i64 0))
    have C7 := (hc6'.out.cell w4.heap.size 3 (.int .i64 0) (by omega))
    have G7 := (grownBy_cell G6'.out w4.heap.size 3 (.int .i64 0) (by omega))
    clear X6 R6' hc6' G6' HS f0 f1
    have X7' : Hid _ := X7
    have R7' : Hid _ := R7
    have C7' : Hid _ := C7
    have G7' : Hid _ := G7
    clear X7 R7 C7 G7
    go_wp2_with fail
    refine (imm_7 B b len cap _ a _ C7'.out (by omega)).mono ?_
    rintro e w8 ⟨im, him, rfl, hc8, hg8⟩
    have z8 : w4.heap.size + 1 ≤ w8.heap.size := by have := hg8.size; (try simp at this); omega
    have X8 := X7'.out.grown hg8 (by first | omega | (simp; omega)) (by intro e; injection e; omega)
    obtain ⟨d0, d1, d2, d3, d4, g0, g1, g2, g3, g4⟩ := R7'.out.grown hg8 (by first | omega | (simp; omega)) (by intro e; injection e; omega)
    have G8 := grownBy_trans G7'.out hg8
    clear X7' R7' C7' G7' hg8 c0 c1 c2 c3 c4 f0' f1' f2' f3' f4'
    obtain ⟨c0, c1, c2, c3, c4, f0', f1', f2', f3', f4'⟩ := X8
    have hr : rightB op (rd : Int) (r1 : Int) 0 im = true := by
      have := HRT.out im him
      simpa using this
    have HR : Hid (rightB op (rd : Int) (r1 : Int) 0 im = true) := hr
    clear hr HRT him hsf
    go_wp2
    refine bodyPost_ret (v := .agg #[.int .i64 op, .int .i64 (rd : Int), .int .i64 (r1 : Int), .int .i64 0, .int .i64 im]) (by simp [results, Tryd.results29, go_sem, d0, d1, d2, d3, d4]) rfl ⟨op, (rd : Int), (r1 : Int), 0, im, HR.out, rfl, ?_, ?_⟩
    · refine Ctx.mono (m := m + 1 + 1 + 1 + 1 + 10) ?_ (by omega)
      repeat (first | with_reducible exact hc8 | refine Ctx.cell ?_ _ _ _ (by omega))
    · repeat (first | with_reducible exact G8 | refine grownBy_cell ?_ _ _ _ (by omega))
  · have X7 := X6.out
    have R7 := R6'.out
    have C7 := hc6'.out
    have G7 := G6'.out
    clear X6 R6' hc6' G6' HS f0 f1
    have X7' : Hid _ := X7
    have R7' : Hid _ := R7
    have C7' : Hid _ := C7
    have G7' : Hid _ := G7
    clear X7 R7 C7 G7
    go_wp2_with fail
    refine (imm_8 B b len cap _ a _ C7'.out (by omega)).mono ?_
    rintro e w8 ⟨im, him, rfl, hc8, hg8⟩
    have z8 : w4.heap.size + 1 ≤ w8.heap.size := by have := hg8.size; (try simp at this); omega
    have X8 := X7'.out.grown hg8 (by first | omega | (simp; omega)) (by intro e; injection e; omega)
    obtain ⟨d0, d1, d2, d3, d4, g0, g1, g2, g3, g4⟩ := R7'.out.grown hg8 (by first | omega | (simp; omega)) (by intro e; injection e; omega)
    have G8 := grownBy_trans G7'.out hg8
    clear X7' R7' C7' G7' hg8 c0 c1 c2 c3 c4 f0' f1' f2' f3' f4'
    obtain ⟨c0, c1, c2, c3, c4, f0', f1', f2', f3', f4'⟩ := X8
    have hr : rightB op (rd : Int) (r1 : Int) (r2 : Int) im = true := by
      have := HRT.out im him
      simpa using this
    have HR : Hid (rightB op (rd : Int) (r1 : Int) (r2 : Int) im = true) := hr
    clear hr HRT him hsf
    go_wp2
    refine bodyPost_ret (v := .agg #[.int .i64 op, .int .i64 (rd : Int), .int .i64 (r1 : Int), .int .i64 (r2 : Int), .int .i64 im]) (by simp [results, Tryd.results29, go_sem, d0, d1, d2, d3, d4]) rfl ⟨op, (rd : Int), (r1 : Int), (r2 : Int), im, HR.out, rfl, ?_, ?_⟩
    · refine Ctx.mono (m := m + 1 + 1 + 1 + 1 + 10) ?_ (by omega)
      repeat (first | with_reducible exact hc8 | refine Ctx.cell ?_ _ _ _ (by omega))
    · repeat (first | with_reducible exact G8 | refine grownBy_cell ?_ _ _ _ (by omega))
  · have X7 := (((X6.out.set1 0).set2 0).set3 0)
    have R7 := (((R6'.out.oth1 (d := w4.heap.size) (by omega) (.int .i64 0)).oth2 (d := w4.heap.size) (by omega) (.int .i64 0)).oth3 (d := w4.heap.size) (by omega) (.int .i64 0))
    have C7 := (((hc6'.out.cell w4.heap.size 1 (.int .i64 0) (by omega)).cell w4.heap.size 2 (.int .i64 0) (by omega)).cell w4.heap.size 3 (.int .i64 0) (by omega))
    have G7 := (grownBy_cell (grownBy_cell (grownBy_cell G6'.out w4.heap.size 1 (.int .i64 0) (by omega)) w4.heap.size 2 (.int .i64 0) (by omega)) w4.heap.size 3 (.int .i64 0) (by omega))
    clear X6 R6' hc6' G6' HS f0 f1
    have X7' : Hid _ := X7
    have R7' : Hid _ := R7
    have C7' : Hid _ := C7
    have G7' : Hid _ := G7
    clear X7 R7 C7 G7
    go_wp2_with fail
    refine (imm_9 B b len cap _ a _ C7'.out (by omega)).mono ?_
    rintro e w8 ⟨im, him, rfl, hc8, hg8⟩
    have z8 : w4.heap.size + 1 ≤ w8.heap.size := by have := hg8.size; (try simp at this); omega
    have X8 := X7'.out.grown hg8 (by first | omega | (simp; omega)) (by intro e; injection e; omega)
    obtain ⟨d0, d1, d2, d3, d4, g0, g1, g2, g3, g4⟩ := R7'.out.grown hg8 (by first | omega | (simp; omega)) (by intro e; injection e; omega)
    have G8 := grownBy_trans G7'.out hg8
    clear X7' R7' C7' G7' hg8 c0 c1 c2 c3 c4 f0' f1' f2' f3' f4'
    obtain ⟨c0, c1, c2, c3, c4, f0', f1', f2', f3', f4'⟩ := X8
    have hr : rightB op 0 0 0 im = true := by
      have := HRT.out im him
      simpa using this
    have HR : Hid (rightB op 0 0 0 im = true) := hr
    clear hr HRT him hsf
    go_wp2
    refine bodyPost_ret (v := .agg #[.int .i64 op, .int .i64 0, .int .i64 0, .int .i64 0, .int .i64 im]) (by simp [results, Tryd.results29, go_sem, d0, d1, d2, d3, d4]) rfl ⟨op, 0, 0, 0, im, HR.out, rfl, ?_, ?_⟩
    · refine Ctx.mono (m := m + 1 + 1 + 1 + 1 + 10) ?_ (by omega)
      repeat (first | with_reducible exact hc8 | refine Ctx.cell ?_ _ _ _ (by omega))
    · repeat (first | with_reducible exact G8 | refine grownBy_cell ?_ _ _ _ (by omega))

theorem instrDrawn_any (len cap B : Nat) (a : Option Addr) (w : World) (hB : Bytes w B a len) (hb : B ≤ w.heap.size) :
    Calls Tryd.prog 10 #[.slice a len cap] w fun e w' => ∃ op rd r1 r2 im : Int, rightB op rd r1 r2 im = true ∧ e = .returned (.agg #[.int .i64 op, .int .i64 rd, .int .i64 r1, .int .i64 r2, .int .i64 im]) ∧ Below w.heap.size w w' := by
  go_enter Tryd.func10, Tryd.ntmps10
  go_wp2_with fail
  refine (source_any len cap a _ hB.1).mono ?_
  rintro e w1 ⟨sd, rfl, hs, hbel, hsz⟩
  have hB1 := (hB.below ((Below.refl w.heap.size w).alloc (Nat.le_refl _) (.cells #[.int .i64 0, .int .i64 0, .int .i64 0, .int .i64 0, .int .i64 0] 24) |>.mono hb)).below (hbel.mono (by simp; omega))
  have Z1 : Five w1 w.heap.size 0 0 0 0 0 := Five.below (B := w.heap.size + 1) (by constructor <;> simp) (hbel.mono (by simp)) (by omega)
  have B1 : Below w.heap.size w w1 := ((Below.refl _ _).alloc (Nat.le_refl _) _).trans (hbel.mono (by simp))
  clear hbel
  simp only [World.size_alloc] at hs hsz
  go_wp2_with fail
  refine (instr_ctx B (w.heap.size + 1) len cap 0 a _ ⟨⟨0, sd, by omega, hs⟩, hB1, by omega, hsz⟩ (by omega)).mono ?_
  rintro e w2 ⟨op, rd, r1, r2, im, hr, rfl, hc2, hg2⟩
  obtain ⟨d0, d1, d2, d3, d4, g0, g1, g2, g3, g4⟩ := Z1.grown hg2 (by omega) (by intro e; injection e with e; omega)
  have B2 : Below w.heap.size w w2 := B1.trans (Below.refl _ _ |>.grown hg2 (by have := B1.size; omega) (fun k e => by injection e with e; omega))
  have HR : Hid (rightB op rd r1 r2 im = true) := hr
  clear hr hc2 hg2 Z1 B1 hB1 hs hB
  go_wp2
  refine bodyPost_ret (v := .agg #[.int .i64 op, .int .i64 rd, .int .i64 r1, .int .i64 r2, .int .i64 im]) (by simp [results, Tryd.results10, go_sem, d0, d1, d2, d3, d4]) rfl ⟨op, rd, r1, r2, im, HR.out, rfl, ?_⟩
  repeat (first | with_reducible exact B2 | refine Below.setCell ?_ (by first | omega | (simp; done) | (simp; omega)) _)
end Go.Proofs.YtdkiamcjicbmnaaDoor

namespace Go.Proofs.YtdkiamcjicbmnaaDoor
open Go.RowKit
set_option linter.unusedVariables false

theorem regB_in {v : Int} (h : regB v = true) : 0 ≤ v ∧ v < 32 := by
  have := of_decide_eq_true h
  omega
theorem okB_i {f v : Int} (h1 : 0 ≤ f) (h9 : f ≤ 9) (h : okB f v = true) : okI f v := (okB_iff f v h1 h9).1 h

theorem back_all (f c g h rd r1 r2 im : Int) (hok : shOK f c g h = true) (hf : rightF f rd r1 r2 im = true) : BackP f c g h rd r1 r2 im (encW f c g h rd r1 r2 im) := by
  obtain ⟨f0, f1, c0, c1, g0, g1, h0, h1⟩ := sh_bounds hok
  obtain ⟨m1, m2, m3, m4, m5, m9⟩ := sh_more hok
  rcases (show f = 1 ∨ f = 2 ∨ f = 3 ∨ f = 4 ∨ f = 5 ∨ f = 6 ∨ f = 7 ∨ f = 8 ∨ f = 9 by omega) with rfl | rfl | rfl | rfl | rfl | rfl | rfl | rfl | rfl
  · obtain ⟨rfl, rfl⟩ := m1 rfl
    simp [rightF] at hf
    obtain ⟨⟨⟨b1, rfl⟩, rfl⟩, hi⟩ := hf
    have b1 := regB_in b1
    exact back1 c rd im c0 c1 b1.1 b1.2 (okB_i (by decide) (by decide) hi)
  · obtain ⟨rfl, rfl⟩ := m2 rfl
    simp [rightF] at hf
    obtain ⟨⟨⟨b1, rfl⟩, rfl⟩, hi⟩ := hf
    have b1 := regB_in b1
    exact back2 c rd im c0 c1 b1.1 b1.2 (okB_i (by decide) (by decide) hi)
  · obtain rfl := m3 rfl
    simp [rightF] at hf
    obtain ⟨⟨⟨b1, b2⟩, rfl⟩, hi⟩ := hf
    have b1 := regB_in b1
    have b2 := regB_in b2
    exact back3 c g rd r1 im c0 c1 g0 g1 b1.1 b1.2 b2.1 b2.2 (okB_i (by decide) (by decide) hi)
  · obtain rfl := m4 rfl
    simp [rightF] at hf
    obtain ⟨⟨⟨rfl, b2⟩, b3⟩, hi⟩ := hf
    have b2 := regB_in b2
    have b3 := regB_in b3
    exact back4 c g r1 r2 im c0 c1 g0 g1 b2.1 b2.2 b3.1 b3.2 (okB_i (by decide) (by decide) hi)
  · obtain rfl := m5 rfl
    simp [rightF] at hf
    obtain ⟨⟨⟨rfl, b2⟩, b3⟩, hi⟩ := hf
    have b2 := regB_in b2
    have b3 := regB_in b3
    exact back5 c g r1 r2 im c0 c1 g0 g1 b2.1 b2.2 b3.1 b3.2 (okB_i (by decide) (by decide) hi)
  · simp [rightF] at hf
    obtain ⟨⟨⟨b1, b2⟩, rfl⟩, hi⟩ := hf
    have b1 := regB_in b1
    have b2 := regB_in b2
    exact back6 c g h rd r1 im c0 c1 g0 g1 h0 h1 b1.1 b1.2 b2.1 b2.2 (okB_i (by decide) (by decide) hi)
  · simp [rightF] at hf
    obtain ⟨⟨⟨b1, b2⟩, rfl⟩, hi⟩ := hf
    have b1 := regB_in b1
    have b2 := regB_in b2
    exact back7 c g h rd r1 im c0 c1 g0 g1 h0 h1 b1.1 b1.2 b2.1 b2.2 (okB_i (by decide) (by decide) hi)
  · simp [rightF] at hf
    obtain ⟨⟨⟨b1, b2⟩, b3⟩, rfl⟩ := hf
    have b1 := regB_in b1
    have b2 := regB_in b2
    have b3 := regB_in b3
    exact back8 c g h rd r1 r2 0 c0 c1 g0 g1 h0 h1 b1.1 b1.2 b2.1 b2.2 b3.1 b3.2 rfl
  · obtain rfl := m9 rfl
    simp [rightF] at hf
    obtain ⟨⟨⟨rfl, rfl⟩, rfl⟩, rfl⟩ := hf
    exact back9 c h c0 c1 h0 h1

theorem decBack (op rd r1 r2 im : Int) (hr : rightB op rd r1 r2 im = true) : ∃ W : Int, 0 ≤ W ∧ W < 4294967296 ∧ encT op rd r1 r2 im = W ∧ encE op rd r1 r2 im = 0 ∧
    ∀ w, Calls Tryd.prog 13 #[.int .i64 W] w fun e w' => e = .returned (.tuple #[.agg #[.int .i64 op, .int .i64 rd, .int .i64 r1, .int .i64 r2, .int .i64 im], .int .i64 0]) ∧ Below w.heap.size w w' := by
  have hr' := hr
  unfold rightB at hr
  obtain ⟨hop, hf⟩ := Bool.and_eq_true_iff.1 hr
  have hop := of_decide_eq_true hop
  obtain ⟨w0, w1, hh, e1, e2, e3, e4⟩ := back_all _ _ _ _ rd r1 r2 im (shT_ok op hop.1 hop.2) hf
  refine ⟨encW (shT op).1 (shT op).2.1 (shT op).2.2.1 (shT op).2.2.2 rd r1 r2 im, w0, w1, by unfold encT; rw [if_pos hr'], by unfold encE; rw [if_pos hr'], ?_⟩
  generalize encW (shT op).1 (shT op).2.1 (shT op).2.2.1 (shT op).2.2.2 rd r1 r2 im = W at *
  intro w
  obtain ⟨n, rfl⟩ := Int.eq_ofNat_of_zero_le (show 0 ≤ op by omega)
  have hd := decX W w0 w1 n (by omega) (by omega) (fun j j0 j1 hj => hit_once j n W j0 j1 (by omega) hj hh) hh _ rfl w
  unfold itV at hd
  rw [e1, e2, e3, e4] at hd
  exact hd

theorem decTwo (v : Int) (v0 : 0 ≤ v) (v1 : v < 4294967296) : ∃ a0 a1 a2 a3 a4 co : Int,
    (∀ w, Calls Tryd.prog 17 #[.int .i64 v] w fun e w' => e = .returned (.tuple #[.agg #[.int .i64 a0, .int .i64 a1, .int .i64 a2, .int .i64 a3, .int .i64 a4], .int .i64 co]) ∧ Below w.heap.size w w') ∧
    (∀ w, Calls Tryd.prog 13 #[.int .i64 v] w fun e w' => e = .returned (.tuple #[.agg #[.int .i64 a0, .int .i64 a1, .int .i64 a2, .int .i64 a3, .int .i64 a4], .int .i64 co]) ∧ Below w.heap.size w w') ∧
    (co = 10 ∨ (co = 0 ∧ encT a0 a1 a2 a3 a4 = v ∧ encE a0 a1 a2 a3 a4 = 0)) := by
  rcases first_hit v with h | ⟨n, n0, n1, h, hh⟩
  · exact ⟨0, 0, 0, 0, 0, 10, fun w => sdNo v v0 (by omega) (fun w => dmNone v v0 v1 h w) w, fun w => decNone v v0 v1 h w, .inl rfl⟩
  · refine ⟨n, tkRd (shT n).1 v, tkR1 (shT n).1 v, tkR2 (shT n).1 v, takeF (shT n).1 v, 0, fun w => sdYes v _ _ _ _ _ v0 (by omega) (fun w => dmYes v v0 v1 n n0 n1 h hh _ rfl w) w, fun w => decX v v0 v1 n n0 n1 h hh _ rfl w, .inr ⟨rfl, ?_⟩⟩
    have hb := sh_bounds (shT_ok n (by omega) (by omega))
    have hr : rightB n (tkRd (shT n).1 v) (tkR1 (shT n).1 v) (tkR2 (shT n).1 v) (takeF (shT n).1 v) = true := by
      unfold rightB
      rw [right_taken _ v hb.1 hb.2.1, Bool.and_true]
      exact decide_eq_true ⟨by omega, by omega⟩
    have ha := (hit_all n v _ _ _ _ (by omega) (by omega) v0 v1 rfl).1 hh
    exact ⟨by unfold encT; rw [if_pos hr]; exact ha.2.2, by unfold encE; rw [if_pos hr]⟩

theorem pow31 (k : Nat) (h : k ≤ 31) : (1 : Int) ≤ 2 ^ k ∧ (2 : Int) ^ k ≤ 2147483648 := by
  have h1 := pow_pos k
  have h2 : (2 : Int) ^ k ≤ 2 ^ 31 := pow_le h
  have h3 : (2 : Int) ^ 31 = 2147483648 := rfl
  omega
/-- One bit of the lowest 32 turned. -/
theorem xor_in (W : Int) (k : Nat) (h0 : 0 ≤ W) (h1 : W < 4294967296) (hk : k ≤ 31) : ∃ Z : Int, bits .xor .i64 W (2 ^ k) = Z ∧ 0 ≤ Z ∧ Z < 4294967296 := by
  refine ⟨_, rfl, ?_⟩
  obtain ⟨n, rfl⟩ := Int.eq_ofNat_of_zero_le h0
  have hp := pow31 k hk
  have e : (2 : Int) ^ k = ((2 ^ k : Nat) : Int) := by simp
  have hp2 : (2 ^ k : Nat) < 4294967296 := by omega
  rw [e]
  have hx : n ^^^ 2 ^ k < 2 ^ 32 := Nat.xor_lt_two_pow (by omega) (by omega)
  show 0 ≤ IntKind.i64.wrap ((BitVec.ofInt 64 (n : Int) ^^^ BitVec.ofInt 64 ((2 ^ k : Nat) : Int)).toNat : Int) ∧ IntKind.i64.wrap ((BitVec.ofInt 64 (n : Int) ^^^ BitVec.ofInt 64 ((2 ^ k : Nat) : Int)).toNat : Int) < 4294967296
  rw [BitVec.toNat_xor, ofInt_u64 n (by omega), ofInt_u64 (2 ^ k) (by omega), IntWalk.i64_in _ (by omega)]
  omega

theorem wordDrawn_any (len cap B : Nat) (a : Option Addr) (w : World) (hB : Bytes w B a len) (hb : B ≤ w.heap.size) :
    Calls Tryd.prog 15 #[.slice a len cap] w fun e w' => ∃ v : Nat, v < 4294967296 ∧ e = .returned (.int .i64 v) ∧ Below w.heap.size w w' := by
  go_enter Tryd.func15, Tryd.ntmps15
  go_wp2_with fail
  refine (source_any len cap a _ hB.1).mono ?_
  rintro e w1 ⟨sd, rfl, hs, hbel, hsz⟩
  go_wp2_with fail
  refine (word_ctx B _ len cap 0 a _ ⟨⟨0, sd, by omega, hs⟩, hB.below (hbel.mono hb), hb, hsz⟩ (by omega)).mono ?_
  rintro e w2 ⟨v, hv, rfl, _, hg⟩
  go_wp2
  go_ret
  exact ⟨v, hv, rfl, hbel.trans (Below.refl _ _ |>.grown hg (by omega) (fun k e => by injection e; omega))⟩
end Go.Proofs.YtdkiamcjicbmnaaDoor

namespace Go.Proofs.YtdkiamcjicbmnaaDoor
open Go.RowKit
set_option linter.unusedVariables false

theorem bytes_of_row {w : World} {a : Option Addr} {len cap : Nat} {zs : List Int}
    (h : (a = none ∧ len = 0 ∧ cap = 0 ∧ zs = []) ∨ ∃ x, a = some x ∧ len ≤ cap ∧ cap ≤ maxLen ∧ zs.length = cap ∧ (∀ i, i < zs.length → w.cell? (x.add i) = some (.int .u8 (zs.getD i 0))) ∧ ∀ n ∈ zs, (Lit.int .u8 n).wf = true) :
    Bytes w w.heap.size a len := by
  rcases h with ⟨_, rfl, _, _⟩ | ⟨x, rfl, hl, hm, hz, hcell, hwz⟩
  · exact ⟨Nat.zero_le _, fun i hi => absurd hi (Nat.not_lt_zero _)⟩
  · refine ⟨by omega, fun i hi => ?_⟩
    have hi' : i < zs.length := by omega
    have hc := hcell i hi'
    obtain ⟨b, off, spot⟩ := x
    have hspot : spot = none := by
      have h0 := hcell 0 (by omega)
      simpa [Addr.add] using World.cell?_spot h0
    subst hspot
    have hc' : w.cell? ⟨b, off + i, none⟩ = some (.int .u8 (zs.getD i 0)) := by
      rw [← hc]
      by_cases e : i = 0
      · subst e; simp [Addr.add]
      · simp [Addr.add, e]
    have hmem : zs.getD i 0 ∈ zs := by
      have : zs.getD i 0 = zs[i] := by simp [hi']
      rw [this]
      exact List.getElem_mem _
    have hb := bounds_u8 (hwz _ hmem)
    exact ⟨b, off, zs.getD i 0, rfl, World.block_lt_of_cell? w _ hc', hb.1, by have := hb.2; omega, hc'⟩
end Go.Proofs.YtdkiamcjicbmnaaDoor
