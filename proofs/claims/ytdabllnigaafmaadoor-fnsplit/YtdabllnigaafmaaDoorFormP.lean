/- The numbers of the forms: plain. -/
import Derived.Test.YtdabllnigaafmaaDoorSgnP
import Derived.Test.YtdabllnigaafmaaDoorBitP
namespace Go.Proofs.YtdabllnigaafmaaDoor

/-- The bits of a word that a form's number makes. -/
def layF (f v : Int) : Int :=
  if f = 1 then v / 4096 % 1048576 * 4096
  else if f = 2 then v / 4096 % 256 * 4096 + v / 2048 % 2 * 1048576 + v / 2 % 1024 * 2097152 + v / 1048576 % 2 * 2147483648
  else if f = 3 then v % 4096 * 1048576
  else if f = 4 then v / 2048 % 2 * 128 + v / 2 % 16 * 256 + v / 32 % 64 * 33554432 + v / 4096 % 2 * 2147483648
  else if f = 5 then v % 32 * 128 + v / 32 % 128 * 33554432
  else if f = 6 then v % 64 * 1048576
  else if f = 7 then v % 32 * 1048576
  else 0

/-- The number that lies in a word of a form. -/
def takeF (f w : Int) : Int :=
  if f = 1 then sgn (w / 4096 % 1048576 * 4096) 32
  else if f = 2 then sgn (w / 4096 % 256 * 4096 + w / 1048576 % 2 * 2048 + w / 2097152 % 1024 * 2 + w / 2147483648 % 2 * 1048576) 21
  else if f = 3 then sgn (w / 1048576 % 4096) 12
  else if f = 4 then sgn (w / 128 % 2 * 2048 + w / 256 % 16 * 2 + w / 33554432 % 64 * 32 + w / 2147483648 % 2 * 4096) 13
  else if f = 5 then sgn (w / 128 % 32 + w / 33554432 % 128 * 32) 12
  else if f = 6 then w / 1048576 % 64
  else if f = 7 then w / 1048576 % 32
  else 0

/-- May a form's number be v? -/
def okI (f v : Int) : Prop :=
  if f = 1 then -2147483648 ≤ v ∧ v ≤ 2147479552 ∧ v % 4096 = 0
  else if f = 2 then -1048576 ≤ v ∧ v ≤ 1048574 ∧ v % 2 = 0
  else if f = 3 then -2048 ≤ v ∧ v ≤ 2047
  else if f = 4 then -4096 ≤ v ∧ v ≤ 4094 ∧ v % 2 = 0
  else if f = 5 then -2048 ≤ v ∧ v ≤ 2047
  else if f = 6 then 0 ≤ v ∧ v ≤ 63
  else if f = 7 then 0 ≤ v ∧ v ≤ 31
  else v = 0

theorem sgn_num (v : Int) (c : Nat) (A B : Int) (hA : A = 2 ^ (c - 1)) (hB : B = 2 ^ c) : sgn v c = (v + A) % B - A := by
  rw [hA, hB]; rfl

theorem parts2 (a b c d : Int) (ha : 0 ≤ a ∧ a < 256) (hb : 0 ≤ b ∧ b < 2) (hc : 0 ≤ c ∧ c < 1024) (hd : 0 ≤ d ∧ d < 2) :
    (a * 4096 + b * 1048576 + c * 2097152 + d * 2147483648) / 4096 % 256 = a ∧ (a * 4096 + b * 1048576 + c * 2097152 + d * 2147483648) / 1048576 % 2 = b ∧
    (a * 4096 + b * 1048576 + c * 2097152 + d * 2147483648) / 2097152 % 1024 = c ∧ (a * 4096 + b * 1048576 + c * 2097152 + d * 2147483648) / 2147483648 % 2 = d := by
  have e1 : (a * 4096 + b * 1048576 + c * 2097152 + d * 2147483648) / 4096 = a + 256 * (b + c * 2 + d * 2048) := by omega
  have e2 : (a * 4096 + b * 1048576 + c * 2097152 + d * 2147483648) / 1048576 = b + 2 * (c + d * 1024) := by omega
  have e3 : (a * 4096 + b * 1048576 + c * 2097152 + d * 2147483648) / 2097152 = c + 1024 * d := by omega
  have e4 : (a * 4096 + b * 1048576 + c * 2097152 + d * 2147483648) / 2147483648 = d := by omega
  rw [e1, e2, e3, e4]
  clear e1 e2 e3 e4
  exact ⟨by omega, by omega, by omega, by omega⟩
theorem parts4 (a b c d : Int) (ha : 0 ≤ a ∧ a < 2) (hb : 0 ≤ b ∧ b < 16) (hc : 0 ≤ c ∧ c < 64) (hd : 0 ≤ d ∧ d < 2) :
    (a * 128 + b * 256 + c * 33554432 + d * 2147483648) / 128 % 2 = a ∧ (a * 128 + b * 256 + c * 33554432 + d * 2147483648) / 256 % 16 = b ∧
    (a * 128 + b * 256 + c * 33554432 + d * 2147483648) / 33554432 % 64 = c ∧ (a * 128 + b * 256 + c * 33554432 + d * 2147483648) / 2147483648 % 2 = d := by
  have e1 : (a * 128 + b * 256 + c * 33554432 + d * 2147483648) / 128 = a + 2 * (b + c * 131072 + d * 8388608) := by omega
  have e2 : (a * 128 + b * 256 + c * 33554432 + d * 2147483648) / 256 = b + 16 * (c * 8192 + d * 524288) := by omega
  have e3 : (a * 128 + b * 256 + c * 33554432 + d * 2147483648) / 33554432 = c + 64 * d := by omega
  have e4 : (a * 128 + b * 256 + c * 33554432 + d * 2147483648) / 2147483648 = d := by omega
  rw [e1, e2, e3, e4]
  clear e1 e2 e3 e4
  exact ⟨by omega, by omega, by omega, by omega⟩
theorem fin2 (v a b c d r q : Int) (ha : 0 ≤ a ∧ a < 256) (hb : 0 ≤ b ∧ b < 2) (hc : 0 ≤ c ∧ c < 1024) (hd : 0 ≤ d ∧ d < 2) (hr : 0 ≤ r ∧ r < 2)
    (hv : v = 2097152 * q + 1048576 * d + 4096 * a + 2048 * b + 2 * c + r) :
    (a * 4096 + b * 2048 + c * 2 + d * 1048576 + 1048576) % 2097152 - 1048576 = v ↔ (-1048576 ≤ v ∧ v ≤ 1048574 ∧ v % 2 = 0) := by
  obtain ⟨x, hx⟩ : ∃ x, x = 4096 * a + 2048 * b + 2 * c := ⟨_, rfl⟩
  have h1 : 0 ≤ x ∧ x < 1048576 := by omega
  have h2 : x % 2 = 0 := by omega
  have e : a * 4096 + b * 2048 + c * 2 + d * 1048576 + 1048576 = x + d * 1048576 + 1048576 := by omega
  have hv2 : v = 2097152 * q + 1048576 * d + x + r := by omega
  rw [e]
  clear e hv hx ha hb hc
  rcases (show d = 0 ∨ d = 1 by omega) with rfl | rfl
  · omega
  · omega
theorem fin4 (v a b c d r q : Int) (ha : 0 ≤ a ∧ a < 2) (hb : 0 ≤ b ∧ b < 16) (hc : 0 ≤ c ∧ c < 64) (hd : 0 ≤ d ∧ d < 2) (hr : 0 ≤ r ∧ r < 2)
    (hv : v = 8192 * q + 4096 * d + 2048 * a + 32 * c + 2 * b + r) :
    (a * 2048 + b * 2 + c * 32 + d * 4096 + 4096) % 8192 - 4096 = v ↔ (-4096 ≤ v ∧ v ≤ 4094 ∧ v % 2 = 0) := by
  obtain ⟨x, hx⟩ : ∃ x, x = 2048 * a + 32 * c + 2 * b := ⟨_, rfl⟩
  have h1 : 0 ≤ x ∧ x < 4096 := by omega
  have h2 : x % 2 = 0 := by omega
  have e : a * 2048 + b * 2 + c * 32 + d * 4096 + 4096 = x + d * 4096 + 4096 := by omega
  have hv2 : v = 8192 * q + 4096 * d + x + r := by omega
  rw [e]
  clear e hv hx ha hb hc
  rcases (show d = 0 ∨ d = 1 by omega) with rfl | rfl
  · omega
  · omega

set_option maxHeartbeats 1000000 in
theorem take_lay (f v : Int) (h1 : 0 ≤ f) (h9 : f ≤ 9) : takeF f (layF f v) = v ↔ okI f v := by
  have hf : f = 0 ∨ f = 1 ∨ f = 2 ∨ f = 3 ∨ f = 4 ∨ f = 5 ∨ f = 6 ∨ f = 7 ∨ f = 8 ∨ f = 9 := by omega
  rcases hf with rfl | rfl | rfl | rfl | rfl | rfl | rfl | rfl | rfl | rfl
  · show (0 : Int) = v ↔ v = 0
    omega
  · show sgn ((v / 4096 % 1048576 * 4096) / 4096 % 1048576 * 4096) 32 = v ↔ (-2147483648 ≤ v ∧ v ≤ 2147479552 ∧ v % 4096 = 0)
    rw [sgn_num _ 32 2147483648 4294967296 (by decide) (by decide)]
    omega
  · show sgn ((v / 4096 % 256 * 4096 + v / 2048 % 2 * 1048576 + v / 2 % 1024 * 2097152 + v / 1048576 % 2 * 2147483648) / 4096 % 256 * 4096 + (v / 4096 % 256 * 4096 + v / 2048 % 2 * 1048576 + v / 2 % 1024 * 2097152 + v / 1048576 % 2 * 2147483648) / 1048576 % 2 * 2048 + (v / 4096 % 256 * 4096 + v / 2048 % 2 * 1048576 + v / 2 % 1024 * 2097152 + v / 1048576 % 2 * 2147483648) / 2097152 % 1024 * 2 + (v / 4096 % 256 * 4096 + v / 2048 % 2 * 1048576 + v / 2 % 1024 * 2097152 + v / 1048576 % 2 * 2147483648) / 2147483648 % 2 * 1048576) 21 = v ↔ (-1048576 ≤ v ∧ v ≤ 1048574 ∧ v % 2 = 0)
    rw [sgn_num _ 21 1048576 2097152 (by decide) (by decide)]
    obtain ⟨c, q1, r, hr, hc, hv1⟩ : ∃ c q1 r : Int, (0 ≤ r ∧ r < 2) ∧ (0 ≤ c ∧ c < 1024) ∧ v = 2048 * q1 + 2 * c + r := ⟨v / 2 % 1024, v / 2048, v % 2, by omega, by omega, by omega⟩
    obtain ⟨b, q2, hb, hv2⟩ : ∃ b q2 : Int, (0 ≤ b ∧ b < 2) ∧ q1 = 2 * q2 + b := ⟨q1 % 2, q1 / 2, by omega, by omega⟩
    obtain ⟨a, q3, ha, hv3⟩ : ∃ a q3 : Int, (0 ≤ a ∧ a < 256) ∧ q2 = 256 * q3 + a := ⟨q2 % 256, q2 / 256, by omega, by omega⟩
    obtain ⟨d, q4, hd, hv4⟩ : ∃ d q4 : Int, (0 ≤ d ∧ d < 2) ∧ q3 = 2 * q4 + d := ⟨q3 % 2, q3 / 2, by omega, by omega⟩
    have f1 : v / 4096 % 256 = a := by
      have : v / 4096 = q2 := by omega
      omega
    have f2 : v / 2048 % 2 = b := by
      have : v / 2048 = q1 := by omega
      omega
    have f3 : v / 2 % 1024 = c := by
      have : v / 2 = 1024 * q1 + c := by omega
      omega
    have f4 : v / 1048576 % 2 = d := by
      have : v / 1048576 = q3 := by omega
      omega
    rw [f1, f2, f3, f4]
    obtain ⟨e1, e2, e3, e4⟩ := parts2 a b c d ha hb hc hd
    rw [e1, e2, e3, e4]
    exact fin2 v a b c d r q4 ha hb hc hd hr (by rw [hv1, hv2, hv3, hv4]; omega)
  · show sgn ((v % 4096 * 1048576) / 1048576 % 4096) 12 = v ↔ (-2048 ≤ v ∧ v ≤ 2047)
    rw [sgn_num _ 12 2048 4096 (by decide) (by decide)]
    omega
  · show sgn ((v / 2048 % 2 * 128 + v / 2 % 16 * 256 + v / 32 % 64 * 33554432 + v / 4096 % 2 * 2147483648) / 128 % 2 * 2048 + (v / 2048 % 2 * 128 + v / 2 % 16 * 256 + v / 32 % 64 * 33554432 + v / 4096 % 2 * 2147483648) / 256 % 16 * 2 + (v / 2048 % 2 * 128 + v / 2 % 16 * 256 + v / 32 % 64 * 33554432 + v / 4096 % 2 * 2147483648) / 33554432 % 64 * 32 + (v / 2048 % 2 * 128 + v / 2 % 16 * 256 + v / 32 % 64 * 33554432 + v / 4096 % 2 * 2147483648) / 2147483648 % 2 * 4096) 13 = v ↔ (-4096 ≤ v ∧ v ≤ 4094 ∧ v % 2 = 0)
    rw [sgn_num _ 13 4096 8192 (by decide) (by decide)]
    obtain ⟨b, q1, r, hr, hb, hv1⟩ : ∃ b q1 r : Int, (0 ≤ r ∧ r < 2) ∧ (0 ≤ b ∧ b < 16) ∧ v = 32 * q1 + 2 * b + r := ⟨v / 2 % 16, v / 32, v % 2, by omega, by omega, by omega⟩
    obtain ⟨c, q2, hc, hv2⟩ : ∃ c q2 : Int, (0 ≤ c ∧ c < 64) ∧ q1 = 64 * q2 + c := ⟨q1 % 64, q1 / 64, by omega, by omega⟩
    obtain ⟨a, q3, ha, hv3⟩ : ∃ a q3 : Int, (0 ≤ a ∧ a < 2) ∧ q2 = 2 * q3 + a := ⟨q2 % 2, q2 / 2, by omega, by omega⟩
    obtain ⟨d, q4, hd, hv4⟩ : ∃ d q4 : Int, (0 ≤ d ∧ d < 2) ∧ q3 = 2 * q4 + d := ⟨q3 % 2, q3 / 2, by omega, by omega⟩
    have f1 : v / 2048 % 2 = a := by
      have : v / 2048 = q2 := by omega
      omega
    have f2 : v / 2 % 16 = b := by
      have : v / 2 = 16 * q1 + b := by omega
      omega
    have f3 : v / 32 % 64 = c := by
      have : v / 32 = q1 := by omega
      omega
    have f4 : v / 4096 % 2 = d := by
      have : v / 4096 = q3 := by omega
      omega
    rw [f1, f2, f3, f4]
    obtain ⟨e1, e2, e3, e4⟩ := parts4 a b c d ha hb hc hd
    rw [e1, e2, e3, e4]
    exact fin4 v a b c d r q4 ha hb hc hd hr (by rw [hv1, hv2, hv3, hv4]; omega)
  · show sgn ((v % 32 * 128 + v / 32 % 128 * 33554432) / 128 % 32 + (v % 32 * 128 + v / 32 % 128 * 33554432) / 33554432 % 128 * 32) 12 = v ↔ (-2048 ≤ v ∧ v ≤ 2047)
    rw [sgn_num _ 12 2048 4096 (by decide) (by decide)]
    omega
  · show (v % 64 * 1048576) / 1048576 % 64 = v ↔ (0 ≤ v ∧ v ≤ 63)
    omega
  · show (v % 32 * 1048576) / 1048576 % 32 = v ↔ (0 ≤ v ∧ v ≤ 31)
    omega
  · show (0 : Int) = v ↔ v = 0
    omega
  · show (0 : Int) = v ↔ v = 0
    omega
end Go.Proofs.YtdabllnigaafmaaDoor
