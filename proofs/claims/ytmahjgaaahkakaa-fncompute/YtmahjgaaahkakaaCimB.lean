/- The program's operations: contracts. -/
import Derived.Test.YtmahjgaaahkakaaCimP
import Derived.Test.YtmahjgaaahkakaaDivB
namespace Go.Proofs.Ytmahjgaaahkakaa
open Go.RowKit
set_option linter.unusedVariables false


theorem plc6 (b : Int) (w : World) :
    Calls Try.prog 58 #[.int .i64 b, .int .i64 6] w fun e w' => e = .returned (.int .i64 (sh6 b : Int)) ∧ w' = w := by
  have hm := msk6 b
  go_enter Try.func58, Try.ntmps58
  go_wp2
  go_ret
  exact ⟨rfl, rfl⟩
theorem plc5 (b : Int) (w : World) :
    Calls Try.prog 58 #[.int .i64 b, .int .i64 5] w fun e w' => e = .returned (.int .i64 (sh5 b : Int)) ∧ w' = w := by
  have hm := msk5 b
  go_enter Try.func58, Try.ntmps58
  go_wp2
  go_ret
  exact ⟨rfl, rfl⟩
theorem oneC (b : Bool) (w : World) :
    Calls Try.prog 74 #[.bool b] w fun e w' => e = .returned (.int .i64 (oneB b)) ∧ w' = w := by
  cases b
  · go_enter Try.func74, Try.ntmps74
    go_wp2
    go_ret
    exact ⟨rfl, rfl⟩
  · go_enter Try.func74, Try.ntmps74
    go_wp2
    go_ret
    exact ⟨rfl, rfl⟩
theorem ifC (a v : Int) (w : World) :
    Calls Try.prog 108 #[.int .i64 a, .int .i64 v] w fun e w' => e = .returned (.int .i64 (ifN a v)) ∧ w' = w := by
  unfold ifN
  by_cases h : a < 0
  · rw [if_pos h]
    go_enter Try.func108, Try.ntmps108
    go_wp2
    go_ret
    exact ⟨rfl, rfl⟩
  · rw [if_neg h]
    have h' : 0 ≤ a := by omega
    go_enter Try.func108, Try.ntmps108
    go_wp2
    go_ret
    exact ⟨rfl, rfl⟩
theorem w3264 (x : Int) : wrap64 (wrap32 x) = wrap32 x := by unfold wrap64 wrap32; omega
theorem up_in (a b : Int) : wrap64 (upU a b) = upU a b := by unfold upU wrap64; omega
theorem sgn_w (x : Int) : wrap64 (sgn x 32) = sgn x 32 := by rw [← wrap32_sgn]; exact w3264 x
/-- The lowest 32 bits as they are. -/
def lo32N (a : Int) : Nat := (a % 4294967296).toNat
theorem lo32N_lt (a : Int) : lo32N a < 4294967296 := by unfold lo32N; omega
theorem lo32_nat (a : Int) : a % 4294967296 = (lo32N a : Int) := by unfold lo32N; omega
theorem u64_lo (a : Int) : u64 (lo32 a) = lo32N a := by unfold u64 lo32 lo32N; omega
theorem wl32 (x : Nat) : wrap32 (x : Int) = sgn (wrap64 (x : Int)) 32 := by rw [wrap32_sgn, sgn_wrap _ 32 (by decide)]
theorem tmod_bd (x y : Int) (h : -2147483648 ≤ y ∧ y ≤ 2147483647) (h0 : y ≠ 0) : -2147483648 ≤ x.tmod y ∧ x.tmod y ≤ 2147483647 := by
  rw [tmod_abs]
  have := Nat.mod_lt x.natAbs (show 0 < y.natAbs by omega)
  split <;> omega
theorem clm61 (x y : Int) (h : -2147483648 ≤ y ∧ y ≤ 2147483647) (h0 : y ≠ 0) : x.tmod y = sgn (x.tmod y) 32 := by
  have := tmod_bd x y h h0
  rw [← wrap32_sgn]; unfold wrap32; omega
theorem clm61w (x y : Int) (h : -2147483648 ≤ y ∧ y ≤ 2147483647) (h0 : y ≠ 0) : wrap64 (x.tmod y) = x.tmod y := by
  have := tmod_bd x y h h0
  unfold wrap64; omega
theorem clC31 (a b : Int) (w : World) (ha : In64 a) (hb : In64 b) :
    Calls Try.prog 70 #[.int .i64 a, .int .i64 b] w fun e w' => e = .returned (.int .i64 (cm31 a b)) ∧ w' = w := by
  unfold cm31
  go_enter Try.func70, Try.ntmps70
  go_wp2
  go_ret
  exact ⟨rfl, rfl⟩

theorem clC32 (a b : Int) (w : World) (ha : In64 a) (hb : In64 b) :
    Calls Try.prog 71 #[.int .i64 a, .int .i64 b] w fun e w' => e = .returned (.int .i64 (cm32 a b)) ∧ w' = w := by
  unfold cm32
  go_enter Try.func71, Try.ntmps71
  go_wp2
  go_ret
  exact ⟨rfl, rfl⟩

theorem clC33 (a b : Int) (w : World) (ha : In64 a) (hb : In64 b) :
    Calls Try.prog 72 #[.int .i64 a, .int .i64 b] w fun e w' => e = .returned (.int .i64 (cm33 a b)) ∧ w' = w := by
  have hmin : min (sh6 b) 64 = sh6 b := Nat.min_eq_left (Nat.le_of_lt (sh6_lt b))
  go_enter Try.func72, Try.ntmps72
  go_wp2_with fail
  refine (plc6 b _).mono ?_
  rintro e w2 ⟨rfl, rfl⟩
  go_wp2
  go_ret
  exact ⟨ret_int' (e33 a (sh6 b)), rfl⟩

theorem clC34 (a b : Int) (w : World) (ha : In64 a) (hb : In64 b) :
    Calls Try.prog 73 #[.int .i64 a, .int .i64 b] w fun e w' => e = .returned (.int .i64 (cm34 a b)) ∧ w' = w := by
  unfold cm34
  go_enter Try.func73, Try.ntmps73
  go_wp2_with fail
  refine (oneC _ _).mono ?_
  rintro e w2 ⟨rfl, rfl⟩
  go_wp2
  go_ret
  exact ⟨ret_int' (by simp), rfl⟩

theorem clC35 (a b : Int) (w : World) (ha : In64 a) (hb : In64 b) :
    Calls Try.prog 75 #[.int .i64 a, .int .i64 b] w fun e w' => e = .returned (.int .i64 (cm35 a b)) ∧ w' = w := by
  unfold cm35
  go_enter Try.func75, Try.ntmps75
  go_wp2_with fail
  refine (implBelow a b _).mono ?_
  rintro e w2 ⟨rfl, rfl⟩
  go_wp2_with fail
  refine (oneC _ _).mono ?_
  rintro e w2 ⟨rfl, rfl⟩
  go_wp2
  go_ret
  exact ⟨rfl, rfl⟩

theorem clC36 (a b : Int) (w : World) (ha : In64 a) (hb : In64 b) :
    Calls Try.prog 76 #[.int .i64 a, .int .i64 b] w fun e w' => e = .returned (.int .i64 (cm36 a b)) ∧ w' = w := by
  go_enter Try.func76, Try.ntmps76
  go_wp2
  go_ret
  exact ⟨ret_int' (i64_xor a b), rfl⟩

theorem clC37 (a b : Int) (w : World) (ha : In64 a) (hb : In64 b) :
    Calls Try.prog 77 #[.int .i64 a, .int .i64 b] w fun e w' => e = .returned (.int .i64 (cm37 a b)) ∧ w' = w := by
  have ea := wrap_u64 a
  have hmin : min (sh6 b) 64 = sh6 b := Nat.min_eq_left (Nat.le_of_lt (sh6_lt b))
  go_enter Try.func77, Try.ntmps77
  go_wp2_with fail
  refine (plc6 b _).mono ?_
  rintro e w2 ⟨rfl, rfl⟩
  go_wp2
  go_ret
  exact ⟨ret_int' (e37 a (sh6 b)), rfl⟩

theorem clC38 (a b : Int) (w : World) (ha : In64 a) (hb : In64 b) :
    Calls Try.prog 78 #[.int .i64 a, .int .i64 b] w fun e w' => e = .returned (.int .i64 (cm38 a b)) ∧ w' = w := by
  have hmin : min (sh6 b) 64 = sh6 b := Nat.min_eq_left (Nat.le_of_lt (sh6_lt b))
  go_enter Try.func78, Try.ntmps78
  go_wp2_with fail
  refine (plc6 b _).mono ?_
  rintro e w2 ⟨rfl, rfl⟩
  go_wp2
  go_ret
  exact ⟨ret_int' (e38 a (sh6 b) ha), rfl⟩

theorem clC39 (a b : Int) (w : World) (ha : In64 a) (hb : In64 b) :
    Calls Try.prog 79 #[.int .i64 a, .int .i64 b] w fun e w' => e = .returned (.int .i64 (cm39 a b)) ∧ w' = w := by
  go_enter Try.func79, Try.ntmps79
  go_wp2
  go_ret
  exact ⟨ret_int' (i64_or a b), rfl⟩

theorem clC40 (a b : Int) (w : World) (ha : In64 a) (hb : In64 b) :
    Calls Try.prog 80 #[.int .i64 a, .int .i64 b] w fun e w' => e = .returned (.int .i64 (cm40 a b)) ∧ w' = w := by
  go_enter Try.func80, Try.ntmps80
  go_wp2
  go_ret
  exact ⟨ret_int' (i64_and a b), rfl⟩

theorem clC45 (a b : Int) (w : World) (ha : In64 a) (hb : In64 b) :
    Calls Try.prog 55 #[.int .i64 a, .int .i64 b] w fun e w' => e = .returned (.int .i64 (cm45 a b)) ∧ w' = w := by
  go_enter Try.func55, Try.ntmps55
  go_wp2
  go_ret
  exact ⟨ret_int' (by unfold cm45; rw [← wrap32_sgn, ← wrap32_sgn, ← wrap32_sgn]; first | rfl | exact w3264 _), rfl⟩

theorem clC46 (a b : Int) (w : World) (ha : In64 a) (hb : In64 b) :
    Calls Try.prog 56 #[.int .i64 a, .int .i64 b] w fun e w' => e = .returned (.int .i64 (cm46 a b)) ∧ w' = w := by
  go_enter Try.func56, Try.ntmps56
  go_wp2
  go_ret
  exact ⟨ret_int' (by unfold cm46; rw [← wrap32_sgn, ← wrap32_sgn, ← wrap32_sgn]; first | rfl | exact w3264 _), rfl⟩

theorem clC47 (a b : Int) (w : World) (ha : In64 a) (hb : In64 b) :
    Calls Try.prog 57 #[.int .i64 a, .int .i64 b] w fun e w' => e = .returned (.int .i64 (cm47 a b)) ∧ w' = w := by
  have hmin : min (sh5 b) 32 = sh5 b := Nat.min_eq_left (Nat.le_of_lt (sh5_lt b))
  go_enter Try.func57, Try.ntmps57
  go_wp2_with fail
  refine (plc5 b _).mono ?_
  rintro e w2 ⟨rfl, rfl⟩
  go_wp2
  go_ret
  exact ⟨ret_int' (by first | exact e47 a (sh5 b) | exact (w3264 _).trans (e47 a (sh5 b))), rfl⟩

theorem clC48 (a b : Int) (w : World) (ha : In64 a) (hb : In64 b) :
    Calls Try.prog 59 #[.int .i64 a, .int .i64 b] w fun e w' => e = .returned (.int .i64 (cm48 a b)) ∧ w' = w := by
  have hmin : min (sh5 b) 32 = sh5 b := Nat.min_eq_left (Nat.le_of_lt (sh5_lt b))
  go_enter Try.func59, Try.ntmps59
  go_wp2_with fail
  refine (plc5 b _).mono ?_
  rintro e w2 ⟨rfl, rfl⟩
  go_wp2
  go_ret
  exact ⟨ret_int' (by first | exact e48 a (sh5 b) | exact (w3264 _).trans (e48 a (sh5 b))), rfl⟩

theorem clC49 (a b : Int) (w : World) (ha : In64 a) (hb : In64 b) :
    Calls Try.prog 60 #[.int .i64 a, .int .i64 b] w fun e w' => e = .returned (.int .i64 (cm49 a b)) ∧ w' = w := by
  have h49 := e49 a (sh5 b)
  have H49 := hide h49
  clear h49
  have hmin : min (sh5 b) 32 = sh5 b := Nat.min_eq_left (Nat.le_of_lt (sh5_lt b))
  go_enter Try.func60, Try.ntmps60
  go_wp2_with fail
  refine (plc5 b _).mono ?_
  rintro e w2 ⟨rfl, rfl⟩
  go_wp2
  go_ret
  exact ⟨ret_int' (by first | exact H49.out | (rw [H49.out]; exact sgn_w _ )), rfl⟩

theorem clC50 (a b : Int) (w : World) (ha : In64 a) (hb : In64 b) :
    Calls Try.prog 81 #[.int .i64 a, .int .i64 b] w fun e w' => e = .returned (.int .i64 (cm50 a b)) ∧ w' = w := by
  go_enter Try.func81, Try.ntmps81
  go_wp2
  go_ret
  exact ⟨ret_int' (e50 a b), rfl⟩

theorem clC53 (a b : Int) (w : World) (ha : In64 a) (hb : In64 b) :
    Calls Try.prog 84 #[.int .i64 a, .int .i64 b] w fun e w' => e = .returned (.int .i64 (cm53 a b)) ∧ w' = w := by
  go_enter Try.func84, Try.ntmps84
  go_wp2_with fail
  refine (implWide a b _).mono ?_
  rintro e w2 ⟨rfl, rfl⟩
  go_wp2
  go_ret
  exact ⟨rfl, rfl⟩

theorem clC52 (a b : Int) (w : World) (ha : In64 a) (hb : In64 b) :
    Calls Try.prog 83 #[.int .i64 a, .int .i64 b] w fun e w' => e = .returned (.int .i64 (cm52 a b)) ∧ w' = w := by
  go_enter Try.func83, Try.ntmps83
  go_wp2_with fail
  refine (clC53 a b _ ha hb).mono ?_
  rintro e w2 ⟨rfl, rfl⟩
  go_wp2_with fail
  refine (ifC a b _).mono ?_
  rintro e w2 ⟨rfl, rfl⟩
  go_wp2
  go_ret
  exact ⟨ret_int' (e52 a b ha), rfl⟩

theorem clC51 (a b : Int) (w : World) (ha : In64 a) (hb : In64 b) :
    Calls Try.prog 82 #[.int .i64 a, .int .i64 b] w fun e w' => e = .returned (.int .i64 (cm51 a b)) ∧ w' = w := by
  go_enter Try.func82, Try.ntmps82
  go_wp2_with fail
  refine (clC52 a b _ ha hb).mono ?_
  rintro e w2 ⟨rfl, rfl⟩
  go_wp2_with fail
  refine (ifC b a _).mono ?_
  rintro e w2 ⟨rfl, rfl⟩
  go_wp2
  go_ret
  exact ⟨ret_int' (e51 a b ha hb), rfl⟩

theorem clC54 (a b : Int) (w : World) (ha : In64 a) (hb : In64 b) :
    Calls Try.prog 85 #[.int .i64 a, .int .i64 b] w fun e w' => e = .returned (.int .i64 (cm54 a b)) ∧ w' = w := by
  unfold cm54 quS
  by_cases h : b = 0
  · subst h
    rw [if_pos rfl]
    go_enter Try.func85, Try.ntmps85
    go_wp2_with fail
    refine (quoS64_zero a _).mono ?_
    rintro e w2 ⟨rfl, rfl⟩
    go_wp2
    go_ret
    exact ⟨rfl, rfl⟩
  · rw [if_neg h]
    go_enter Try.func85, Try.ntmps85
    go_wp2_with fail
    refine (quoS64_any a b _ h).mono ?_
    rintro e w2 ⟨rfl, rfl⟩
    go_wp2
    go_ret
    exact ⟨rfl, rfl⟩

theorem clC55 (a b : Int) (w : World) (ha : In64 a) (hb : In64 b) :
    Calls Try.prog 87 #[.int .i64 a, .int .i64 b] w fun e w' => e = .returned (.int .i64 (cm55 a b)) ∧ w' = w := by
  have ea := wrap_u64 a
  have eb := wrap_u64 b
  have hla := u64_lt a
  have hlb := u64_lt b
  unfold cm55 quU
  generalize u64 a = x at *
  generalize u64 b = y at *
  by_cases h0 : y = 0
  · subst h0
    rw [if_pos rfl]
    go_enter Try.func87, Try.ntmps87
    go_wp2_with fail
    refine (quo64_zero x _).mono ?_
    rintro e w2 ⟨rfl, rfl⟩
    go_wp2
    go_ret
    exact ⟨ret_int' (all1), rfl⟩
  · rw [if_neg h0]
    obtain ⟨q, hq⟩ : ∃ q, q = x / y := ⟨_, rfl⟩
    rw [← hq]
    have Hq : Hid (q = x / y) := hq
    have h1 : 0 < y := by omega
    clear hq h0
    go_enter Try.func87, Try.ntmps87
    go_wp2_with fail
    refine (quo64_any x y _ h1 hla).mono ?_
    rintro e w2 ⟨rfl, rfl⟩
    rw [← Hq.out]
    go_wp2
    go_ret
    exact ⟨rfl, rfl⟩

theorem clC56 (a b : Int) (w : World) (ha : In64 a) (hb : In64 b) :
    Calls Try.prog 88 #[.int .i64 a, .int .i64 b] w fun e w' => e = .returned (.int .i64 (cm56 a b)) ∧ w' = w := by
  unfold cm56 reS
  by_cases h : b = 0
  · subst h
    rw [if_pos rfl]
    go_enter Try.func88, Try.ntmps88
    go_wp2_with fail
    refine (restS64_zero a _).mono ?_
    rintro e w2 ⟨rfl, rfl⟩
    go_wp2
    go_ret
    exact ⟨rfl, rfl⟩
  · rw [if_neg h]
    go_enter Try.func88, Try.ntmps88
    go_wp2_with fail
    refine (restS64_any a b _ h).mono ?_
    rintro e w2 ⟨rfl, rfl⟩
    go_wp2
    go_ret
    exact ⟨rfl, rfl⟩

theorem clC57 (a b : Int) (w : World) (ha : In64 a) (hb : In64 b) :
    Calls Try.prog 90 #[.int .i64 a, .int .i64 b] w fun e w' => e = .returned (.int .i64 (cm57 a b)) ∧ w' = w := by
  have ea := wrap_u64 a
  have eb := wrap_u64 b
  have hla := u64_lt a
  have hlb := u64_lt b
  unfold cm57 reU
  generalize u64 a = x at *
  generalize u64 b = y at *
  by_cases h0 : y = 0
  · subst h0
    rw [if_pos rfl]
    go_enter Try.func90, Try.ntmps90
    go_wp2_with fail
    refine (rest64_zero x _).mono ?_
    rintro e w2 ⟨rfl, rfl⟩
    go_wp2
    go_ret
    exact ⟨ret_int' (rfl), rfl⟩
  · rw [if_neg h0]
    obtain ⟨q, hq⟩ : ∃ q, q = x % y := ⟨_, rfl⟩
    rw [← hq]
    have Hq : Hid (q = x % y) := hq
    have h1 : 0 < y := by omega
    clear hq h0
    go_enter Try.func90, Try.ntmps90
    go_wp2_with fail
    refine (rest64_any x y _ h1).mono ?_
    rintro e w2 ⟨rfl, rfl⟩
    rw [← Hq.out]
    go_wp2
    go_ret
    exact ⟨rfl, rfl⟩

theorem clC58 (a b : Int) (w : World) (ha : In64 a) (hb : In64 b) :
    Calls Try.prog 61 #[.int .i64 a, .int .i64 b] w fun e w' => e = .returned (.int .i64 (cm58 a b)) ∧ w' = w := by
  go_enter Try.func61, Try.ntmps61
  go_wp2
  go_ret
  exact ⟨ret_int' (by unfold cm58; rw [← wrap32_sgn, ← wrap32_sgn, ← wrap32_sgn]; first | rfl | exact w3264 _), rfl⟩

theorem clC59 (a b : Int) (w : World) (ha : In64 a) (hb : In64 b) :
    Calls Try.prog 62 #[.int .i64 a, .int .i64 b] w fun e w' => e = .returned (.int .i64 (cm59 a b)) ∧ w' = w := by
  have ea := wrap32_sgn a
  have eb := wrap32_sgn b
  have hsa := sgn32_bd a
  have hsb := sgn32_bd b
  unfold cm59 quS
  generalize sgn a 32 = x at *
  generalize sgn b 32 = y at *
  obtain ⟨xa, xb⟩ := hsa
  obtain ⟨ya, yb⟩ := hsb
  by_cases h : y = 0
  · subst h
    rw [if_pos rfl]
    have hf : Hid ((-1 : Int) = sgn (-1) 32) := by show _ = _; rw [← wrap32_sgn]; unfold wrap32; omega
    go_enter Try.func62, Try.ntmps62
    go_wp2_with fail
    refine (quoS32_zero x _).mono ?_
    rintro e w2 ⟨rfl, rfl⟩
    go_wp2
    go_ret
    exact ⟨ret_int' (hf.out), rfl⟩
  · rw [if_neg h]
    have hf : Hid (wrap32 (x.tdiv y) = sgn (wrap64 (x.tdiv y)) 32) := by
      show _ = _
      rw [wrap32_sgn, sgn_wrap _ 32 (by decide)]
    go_enter Try.func62, Try.ntmps62
    go_wp2_with fail
    refine (quoS32_any x y _ h).mono ?_
    rintro e w2 ⟨rfl, rfl⟩
    go_wp2
    go_ret
    exact ⟨ret_int' (by first | exact hf.out | exact (w3264 _).trans hf.out), rfl⟩

theorem clC60 (a b : Int) (w : World) (ha : In64 a) (hb : In64 b) :
    Calls Try.prog 64 #[.int .i64 a, .int .i64 b] w fun e w' => e = .returned (.int .i64 (cm60 a b)) ∧ w' = w := by
  have ea := lo32_nat a
  have eb := lo32_nat b
  have hla := lo32N_lt a
  have hlb := lo32N_lt b
  unfold cm60 quU
  rw [u64_lo, u64_lo]
  generalize lo32N a = x at *
  generalize lo32N b = y at *
  by_cases h0 : y = 0
  · subst h0
    rw [if_pos rfl]
    go_enter Try.func64, Try.ntmps64
    go_wp2_with fail
    refine (quo32_zero x _).mono ?_
    rintro e w2 ⟨rfl, rfl⟩
    go_wp2
    go_ret
    exact ⟨ret_int' (by rw [← wrap32_sgn (-1)]; unfold wrap64 wrap32; omega), rfl⟩
  · rw [if_neg h0]
    obtain ⟨q, hq⟩ : ∃ q, q = x / y := ⟨_, rfl⟩
    rw [← hq]
    have Hq : Hid (q = x / y) := hq
    have h1 : 0 < y := by omega
    clear hq h0
    go_enter Try.func64, Try.ntmps64
    go_wp2_with fail
    refine (quo32_any x y _ h1 hla).mono ?_
    rintro e w2 ⟨rfl, rfl⟩
    rw [← Hq.out]
    go_wp2
    go_ret
    exact ⟨ret_int' (by first | exact wl32 q | exact (w3264 _).trans (wl32 q)), rfl⟩

theorem clC61 (a b : Int) (w : World) (ha : In64 a) (hb : In64 b) :
    Calls Try.prog 66 #[.int .i64 a, .int .i64 b] w fun e w' => e = .returned (.int .i64 (cm61 a b)) ∧ w' = w := by
  have ea := wrap32_sgn a
  have eb := wrap32_sgn b
  have hsa := sgn32_bd a
  have hsb := sgn32_bd b
  unfold cm61 reS
  generalize sgn a 32 = x at *
  generalize sgn b 32 = y at *
  obtain ⟨xa, xb⟩ := hsa
  obtain ⟨ya, yb⟩ := hsb
  by_cases h : y = 0
  · subst h
    rw [if_pos rfl]
    have hf : Hid (x = sgn x 32) := by show _ = _; rw [← wrap32_sgn]; unfold wrap32; omega
    go_enter Try.func66, Try.ntmps66
    go_wp2_with fail
    refine (restS32_zero x _).mono ?_
    rintro e w2 ⟨rfl, rfl⟩
    go_wp2
    go_ret
    exact ⟨ret_int' (hf.out), rfl⟩
  · rw [if_neg h]
    have hf : Hid (x.tmod y = sgn (x.tmod y) 32) := by
      show _ = _
      exact clm61 x y ⟨ya, yb⟩ h
    go_enter Try.func66, Try.ntmps66
    go_wp2_with fail
    refine (restS32_any x y _ h).mono ?_
    rintro e w2 ⟨rfl, rfl⟩
    go_wp2
    go_ret
    exact ⟨ret_int' (by first | exact hf.out | exact (clm61w x y ⟨ya, yb⟩ h).trans hf.out), rfl⟩

theorem clC62 (a b : Int) (w : World) (ha : In64 a) (hb : In64 b) :
    Calls Try.prog 68 #[.int .i64 a, .int .i64 b] w fun e w' => e = .returned (.int .i64 (cm62 a b)) ∧ w' = w := by
  have ea := lo32_nat a
  have eb := lo32_nat b
  have hla := lo32N_lt a
  have hlb := lo32N_lt b
  unfold cm62 reU
  rw [u64_lo, u64_lo]
  generalize lo32N a = x at *
  generalize lo32N b = y at *
  by_cases h0 : y = 0
  · subst h0
    rw [if_pos rfl]
    go_enter Try.func68, Try.ntmps68
    go_wp2_with fail
    refine (rest32_zero x _).mono ?_
    rintro e w2 ⟨rfl, rfl⟩
    go_wp2
    go_ret
    exact ⟨ret_int' (by first | exact wl32 x | exact (w3264 _).trans (wl32 x)), rfl⟩
  · rw [if_neg h0]
    obtain ⟨q, hq⟩ : ∃ q, q = x % y := ⟨_, rfl⟩
    rw [← hq]
    have Hq : Hid (q = x % y) := hq
    have h1 : 0 < y := by omega
    clear hq h0
    go_enter Try.func68, Try.ntmps68
    go_wp2_with fail
    refine (rest32_any x y _ h1).mono ?_
    rintro e w2 ⟨rfl, rfl⟩
    rw [← Hq.out]
    go_wp2
    go_ret
    exact ⟨ret_int' (by first | exact wl32 q | exact (w3264 _).trans (wl32 q)), rfl⟩

end Go.Proofs.Ytmahjgaaahkakaa
