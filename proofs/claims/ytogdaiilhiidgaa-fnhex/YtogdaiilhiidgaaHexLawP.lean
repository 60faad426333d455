/- Digits are read back: plain. -/
import Derived.Test.YtogdaiilhiidgaaUnhex
import Derived.Test.YtogdaiilhiidgaaHex
namespace Go.Proofs.Ytogdaiilhiidgaa

theorem unD_hexD (q : Nat) (h : q < 16) : unD (hexD q) = (q : Int) := by
  have : ∀ q : Fin 16, unD (hexD q.1) = (q.1 : Int) := by decide +kernel
  exact this ⟨q, h⟩

theorem hexL_get : ∀ (l : List UInt8) (i : Nat) (h : i < l.length), (hexL l).getD (2 * i) 0 = hexD (l[i].toNat / 16) ∧ (hexL l).getD (2 * i + 1) 0 = hexD (l[i].toNat % 16)
  | [], i, h => absurd h (Nat.not_lt_zero _)
  | c :: l, 0, h => by simp [hexL]
  | c :: l, i + 1, h => by
    have := hexL_get l i (by simpa using h)
    have e : hexL (c :: l) = hexD (c.toNat / 16) :: hexD (c.toNat % 16) :: hexL l := by simp [hexL]
    rw [e, show 2 * (i + 1) = 2 * i + 1 + 1 from by omega]
    simpa using this

theorem bt_mk (l : List UInt8) (i : Nat) : bt ⟨l.toArray⟩ i = l.getD i 0 := rfl
theorem size_mk_list (l : List UInt8) : (ByteArray.mk l.toArray).size = l.length := by simp [ByteArray.size]

theorem hex_bt (l : List UInt8) (x : List UInt8) (i : Nat) (h : i < l.length) :
    bt ⟨(hexL l ++ x).toArray⟩ (2 * i) = hexD (l[i].toNat / 16) ∧ bt ⟨(hexL l ++ x).toArray⟩ (2 * i + 1) = hexD (l[i].toNat % 16) := by
  have hl := hexL_len l
  have hg := hexL_get l i h
  rw [bt_mk, bt_mk]
  constructor
  · rw [← hg.1]
    simp only [List.getD, List.getElem?_append_left (show 2 * i < (hexL l).length by omega)]
  · rw [← hg.2]
    simp only [List.getD, List.getElem?_append_left (show 2 * i + 1 < (hexL l).length by omega)]

theorem hex_ok (l x : List UInt8) (i : Nat) (h : i < l.length) : okAt ⟨(hexL l ++ x).toArray⟩ i = true := by
  have hb := hex_bt l x i h
  have hc := l[i].toNat_lt
  unfold okAt
  rw [hb.1, hb.2, unD_hexD _ (by omega), unD_hexD _ (by omega), Bool.and_eq_true, decide_eq_true_eq, decide_eq_true_eq]
  omega

theorem hex_byte (l x : List UInt8) (i : Nat) (h : i < l.length) : byteAt ⟨(hexL l ++ x).toArray⟩ i = l[i] := by
  have hb := hex_bt l x i h
  have hc := l[i].toNat_lt
  unfold byteAt
  rw [hb.1, hb.2, unD_hexD _ (by omega), unD_hexD _ (by omega)]
  have e : (16 * ((l[i].toNat / 16 : Nat) : Int) + ((l[i].toNat % 16 : Nat) : Int)).toNat = l[i].toNat := by omega
  rw [e]
  simp

theorem resB_hex (l : List UInt8) : resB ⟨(hexL l).toArray⟩ = some l := by
  have hl := hexL_len l
  have hs := size_mk_list (hexL l)
  have e : (ByteArray.mk (hexL l).toArray).size / 2 = l.length := by omega
  have hx : hexL l = hexL l ++ [] := by simp
  rw [resB_yes _ (by omega) (fun i hi => by rw [hx]; exact hex_ok l [] i (by omega)), e]
  congr 1
  unfold decP
  refine List.ext_getElem (by simp) fun i h1 h2 => ?_
  rw [List.getElem_map, List.getElem_range, hx]
  exact hex_byte l [] i h2

theorem resB_hex_odd (l : List UInt8) (c : UInt8) : resB ⟨(hexL l ++ [c]).toArray⟩ = none := by
  refine resB_odd _ ?_
  rw [size_mk_list, List.length_append, hexL_len]
  simp

theorem resB_hex_bad (l : List UInt8) : resB ⟨(hexL l ++ [48, 71]).toArray⟩ = none := by
  have hl := hexL_len l
  refine resB_at _ l.length ?_ ?_
  · rw [size_mk_list, List.length_append, hl]
    simp
  · unfold okAt
    have : bt ⟨(hexL l ++ [48, 71]).toArray⟩ (2 * l.length + 1) = 71 := by
      rw [bt_mk]
      simp only [List.getD]
      rw [List.getElem?_append_right (by omega), hl]
      simp
    rw [this, show decide (0 ≤ unD 71) = false from by decide, Bool.and_false]

theorem hexT_of (s : ByteArray) (h : s.size ≤ 40) : hexT s = hexL s.data.toList := by
  unfold hexT; rw [if_neg (by omega)]
theorem hexT_len (s : ByteArray) (h : s.size ≤ 40) : (hexT s).length = 2 * s.size := by
  rw [hexT_of s h, hexL_len, len_toList]

theorem un_hex (s : ByteArray) (h : s.size ≤ 40) : unO ⟨(hexT s).toArray⟩ = s.toList ∧ unC ⟨(hexT s).toArray⟩ = 0 := by
  have hs := size_mk_list (hexT s)
  have hl := hexT_len s h
  have := un_short (s := ⟨(hexT s).toArray⟩) (by omega)
  rw [this.1, this.2, hexT_of s h, (resO_some (resB_hex _)).1, resC_some (resB_hex _), ByteArray.toList_eq]
  exact ⟨rfl, rfl⟩

theorem un_hex_odd (s : ByteArray) (h : s.size ≤ 40) : unC (ByteArray.mk (hexT s).toArray ++ { data := #[48] }) = 3 := by
  have hl := hexT_len s h
  rw [show ({ data := #[48] } : ByteArray) = ByteArray.mk [48].toArray from rfl, ByteArray.mk_append_mk]
  have hs := size_mk_list (hexT s ++ [48])
  rw [List.length_append] at hs
  have := un_short (s := ⟨(hexT s ++ [48]).toArray⟩) (by simp at hs; omega)
  rw [this.2, hexT_of s h, resC_none (resB_hex_odd _ _)]

theorem un_hex_bad (s : ByteArray) (h : s.size ≤ 40) : unC (ByteArray.mk (hexT s).toArray ++ { data := #[48, 71] }) = 3 := by
  have hl := hexT_len s h
  rw [show ({ data := #[48, 71] } : ByteArray) = ByteArray.mk [48, 71].toArray from rfl, ByteArray.mk_append_mk]
  have hs := size_mk_list (hexT s ++ [48, 71])
  rw [List.length_append] at hs
  have := un_short (s := ⟨(hexT s ++ [48, 71]).toArray⟩) (by simp at hs; omega)
  rw [this.2, hexT_of s h, resC_none (resB_hex_bad _)]
end Go.Proofs.Ytogdaiilhiidgaa
