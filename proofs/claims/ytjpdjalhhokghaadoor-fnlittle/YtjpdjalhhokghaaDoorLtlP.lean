/- Numbers out of the bytes that were put: plain. -/
import Derived.Test.YtjpdjalhhokghaaDoorSgnP
import Derived.Test.YtjpdjalhhokghaaDoorTakB
namespace Go.Proofs.YtjpdjalhhokghaaDoor
set_option linter.unusedVariables false

theorem leAt_toNat (u i : Nat) : (leAt u i).toNat = u / 256 ^ i % 256 := by
  have h := leAt_nat u i
  rw [pow_256]
  have e : (u : Int) / 2 ^ (8 * i) % 256 = ((u / 2 ^ (8 * i) % 256 : Nat) : Int) := by simp
  rw [e] at h
  omega

theorem valF_leAt (u : Nat) : ∀ n, valF (leAt u) n = u % 256 ^ n
  | 0 => by simp [valF, Nat.mod_one]
  | n + 1 => by
    rw [valF, valF_leAt u n, leAt_toNat, Nat.mod_pow_succ, Nat.mul_comm]

theorem put_size (u n : Nat) : (⟨(leL u n).toArray⟩ : ByteArray).size = n := by
  show (leL u n).toArray.size = n
  simp [leL_len]

theorem leL_get (u n i : Nat) (h : i < n) : (leL u n).getD i 0 = leAt u i := by
  simp [leL, List.getD, h]

theorem bt_put (H X : ByteArray) (u n i : Nat) (h : i < n) : bt (H ++ ⟨(leL u n).toArray⟩ ++ X) (H.size + i) = leAt u i := by
  unfold bt
  have e1 : (H ++ (⟨(leL u n).toArray⟩ : ByteArray) ++ X).data.toList = H.data.toList ++ (leL u n ++ X.data.toList) := by
    simp [ByteArray.data_append]
  have e2 : H.data.toList.length = H.size := by rw [Array.length_toList]; rfl
  rw [e1, ← leL_get u n i h]
  simp only [List.getD, ← e2]
  rw [List.getElem?_append_right (by omega), List.getElem?_append_left (by rw [leL_len]; omega)]
  simp

theorem take_put (H X : ByteArray) (u n : Nat) : takeV (H ++ ⟨(leL u n).toArray⟩ ++ X) H.size n = IntKind.i64.wrap ((u % 256 ^ n : Nat) : Int) := by
  unfold takeV
  rw [valF_congr _ (leAt u) n (fun i hi => bt_put H X u n i hi), valF_leAt]

theorem sgn_wrap (v : Int) (n : Nat) (h : n = 1 ∨ n = 2 ∨ n = 4 ∨ n = 8) : sgn (IntKind.i64.wrap ((u64 v % 256 ^ n : Nat) : Int)) (8 * n) = sgn v (8 * n) := by
  rw [IntKind.wrap_i64]
  unfold sgn u64
  rcases h with rfl | rfl | rfl | rfl <;> simp <;> omega

theorem low_pos (u n : Nat) (h : n = 1 ∨ n = 2 ∨ n = 4) : 0 ≤ IntKind.i64.wrap ((u % 256 ^ n : Nat) : Int) := by
  rw [IntKind.wrap_i64]
  rcases h with rfl | rfl | rfl <;> simp <;> omega

/-- All of it, of one number and one width. -/
structure Back (v : Int) (n : Nat) (H T X : ByteArray) : Prop where
  size : T.size = n
  first : ∀ h : 0 < T.size, T[0].toNat = u64 v % 256
  sign : sgn (takeV (H ++ T ++ X) H.size n) (8 * n) = sgn v (8 * n)
  pos : n = 8 ∨ 0 ≤ takeV (H ++ T ++ X) H.size n

theorem back_put (v : Int) (n : Nat) (H X : ByteArray) (h : n = 1 ∨ n = 2 ∨ n = 4 ∨ n = 8) : Back v n H ⟨(leL (u64 v) n).toArray⟩ X where
  size := put_size _ _
  first := fun hs => by
    rw [bt_eq _ 0 hs]
    have : bt (⟨(leL (u64 v) n).toArray⟩ : ByteArray) 0 = leAt (u64 v) 0 := by
      unfold bt
      simpa using leL_get (u64 v) n 0 (by omega)
    rw [this, leAt_toNat]
    simp
  sign := by rw [take_put]; exact sgn_wrap v n h
  pos := by
    rw [take_put]
    rcases h with h | h | h | h
    · exact .inr (low_pos _ _ (.inl h))
    · exact .inr (low_pos _ _ (.inr (.inl h)))
    · exact .inr (low_pos _ _ (.inr (.inr h)))
    · exact .inl h
end Go.Proofs.YtjpdjalhhokghaaDoor
