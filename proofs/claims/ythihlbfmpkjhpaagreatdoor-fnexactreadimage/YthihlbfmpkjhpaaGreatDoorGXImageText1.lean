/- The model's text of an image. ImageText of both. -/
import Derived.Test.YthihlbfmpkjhpaaGreatDoorGXImageText0
import Derived.Test.YthihlbfmpkjhpaaGreatDoorGXLintImage35
import Derived.Test.YthihlbfmpkjhpaaGreatDoorGXLintImage1
import Derived.Deep.RegionHeld3
import Derived.Test.YthihlbfmpkjhpaaGreatDoorGXLintImage39
namespace Go.Proofs.YthihlbfmpkjhpaaGreatDoor
open Go Go.RowKit
set_option linter.unusedVariables false

theorem addW (a b : ByteArray) (h : a.size + b.size ≤ 1000000) : ∀ w : World, (Op.stringOp .add a b).run Tryz.prog w = .ok (.string (a ++ b)) w :=
  fun w => run_string_add_sum w a b (by omega)
theorem convOneW (w : World) (x : UInt8) : (convert 59 9 (.slice (some ⟨w.heap.size, 0, none⟩) 1 1)).run Tryz.prog (w.alloc (.cells #[.int .u8 (x.toNat : Int)] 5)) = .ok (.string ⟨#[x]⟩) (w.alloc (.cells #[.int .u8 (x.toNat : Int)] 5)) :=
  run_convert_bytes_back (w.alloc (.cells #[.int .u8 (x.toNat : Int)] 5)) 59 9 5 ⟨w.heap.size, 0, none⟩ 1 [x] Tryz.underlying59 Tryz.underlying5 Tryz.underlying9 (fun j hj => by
    obtain rfl : j = 0 := by simp at hj; omega
    exact World.news_of_block (cs := #[.int .u8 (x.toNat : Int)]) (t := 5) (fr := (0, 0)) (heap_alloc_new w _) 0 _ rfl)

/-- A name behind its length. -/
theorem nameT (nm : ByteArray) (w : World) (hn : nm.size ≤ 20) :
    Calls Tryz.prog 64 #[.string nm] w fun e w' => e = .returned (.string (leT nm.size 1 ++ nm)) ∧ Below w.heap.size w w' := by
  have hx : ((leAt (u64 nm.size) 0).toNat : Int) = (nm.size : Int) := by
    rw [leAt_nat]
    have : u64 (nm.size : Int) = nm.size := by unfold u64; omega
    rw [this]
    simp
    omega
  have e1 : leT nm.size 1 = ⟨#[leAt (u64 nm.size) 0]⟩ := by
    unfold leT leL
    simp [List.range_succ]
  have hcv := convOneW w (leAt (u64 nm.size) 0)
  rw [hx] at hcv
  rw [e1]
  have had := addW ⟨#[leAt (u64 nm.size) 0]⟩ nm (by show 1 + nm.size ≤ _; omega)
  have bA := grown1' w (.cells #[.int .u8 (nm.size : Int)] 5)
  clear hx e1
  go_enter Tryz.func64, Tryz.ntmps64
  go_wp2
  go_ret
  exact ⟨rfl, bA⟩

set_option maxRecDepth 100000 in
set_option maxHeartbeats 8000000 in
theorem textS (c s : ByteArray) (p : Option Addr) (n kk : Nat) (S : Nat → SymD) (w : World) (sm : Small c s n S) (hp : SymsAt w p n S) :
    Calls Tryz.prog 37 #[.agg #[.string c, .string s, .slice p n kk]] w fun e w' => e = .returned (.string ⟨(sealL (bodyL c s n S)).toArray⟩) ∧ Below w.heap.size w w' := by
  have bA := grown1' w (.cells #[.string c, .string s, .slice p n kk] 30)
  have i0 : (w.alloc (.cells #[.string c, .string s, .slice p n kk] 30)).cell? ⟨w.heap.size, 0, none⟩ = some (.string c) := by simp
  have i1 : (w.alloc (.cells #[.string c, .string s, .slice p n kk] 30)).cell? ⟨w.heap.size, 1, none⟩ = some (.string s) := by simp
  have i2 : (w.alloc (.cells #[.string c, .string s, .slice p n kk] 30)).cell? ⟨w.heap.size, 2, none⟩ = some (.slice p n kk) := by simp
  have hlt0 : w.heap.size < (w.alloc (.cells #[.string c, .string s, .slice p n kk] 30)).heap.size := by simp
  have hp1 := hp.below bA
  obtain ⟨w1, hW⟩ : ∃ W, (w.alloc (.cells #[.string c, .string s, .slice p n kk] 30)) = W := ⟨_, rfl⟩
  obtain ⟨X, hX⟩ : ∃ X, w.heap.size = X := ⟨_, rfl⟩
  rw [hW, hX] at i0 i1 i2 hlt0
  rw [hW] at hp1 bA
  have HX : Hid (w.heap.size = X) := hX
  have HA : Hid (Below w.heap.size w w1) := bA
  have q1 := sm.n16
  have q2 := sm.c1
  have q3 := sm.s1
  have C1 : ∀ w', Calls Tryz.prog 63 #[.int .i64 c.size, .int .i64 2] w' fun e w'' => e = .returned (.string (leT c.size 2)) ∧ Below w'.heap.size w' w'' := fun w' => specLittle0 c.size 2 w' (by omega)
  have C2 : ∀ w', Calls Tryz.prog 63 #[.int .i64 s.size, .int .i64 2] w' fun e w'' => e = .returned (.string (leT s.size 2)) ∧ Below w'.heap.size w' w'' := fun w' => specLittle0 s.size 2 w' (by omega)
  have C3 : ∀ w', Calls Tryz.prog 63 #[.int .i64 n, .int .i64 1] w' fun e w'' => e = .returned (.string (leT n 1)) ∧ Below w'.heap.size w' w'' := fun w' => specLittle0 n 1 w' (by omega)
  have z1 := leT_size c.size 2
  have z2 := leT_size s.size 2
  have z3 := leT_size n 1
  have d1 := leT_data c.size 2
  have d2 := leT_data s.size 2
  have d3 := leT_data n 1
  obtain ⟨t1, h1⟩ : ∃ t, leT c.size 2 = t := ⟨_, rfl⟩
  obtain ⟨t2, h2⟩ : ∃ t, leT s.size 2 = t := ⟨_, rfl⟩
  obtain ⟨t3, h3⟩ : ∃ t, leT n 1 = t := ⟨_, rfl⟩
  rw [h1] at C1 z1 d1
  rw [h2] at C2 z2 d2
  rw [h3] at C3 z3 d3
  have a1 := addW ⟨#[80, 73, 77, 49]⟩ t1 (by show 4 + t1.size ≤ _; omega)
  obtain ⟨v1, g1⟩ : ∃ v, (⟨#[80, 73, 77, 49]⟩ : ByteArray) ++ t1 = v := ⟨_, rfl⟩
  have y1 : v1.size = 4 + t1.size := by rw [← g1, ByteArray.size_append]; rfl
  have a2 := addW v1 c (by omega)
  obtain ⟨v2, g2⟩ : ∃ v, v1 ++ c = v := ⟨_, rfl⟩
  have y2 : v2.size = v1.size + c.size := by rw [← g2, ByteArray.size_append]
  have a3 := addW v2 t2 (by omega)
  obtain ⟨v3, g3⟩ : ∃ v, v2 ++ t2 = v := ⟨_, rfl⟩
  have y3 : v3.size = v2.size + t2.size := by rw [← g3, ByteArray.size_append]
  have a4 := addW v3 s (by omega)
  obtain ⟨v4, g4⟩ : ∃ v, v3 ++ s = v := ⟨_, rfl⟩
  have y4 : v4.size = v3.size + s.size := by rw [← g4, ByteArray.size_append]
  have a5 := addW v4 t3 (by omega)
  obtain ⟨v5, g5⟩ : ∃ v, v4 ++ t3 = v := ⟨_, rfl⟩
  have y5 : v5.size = v4.size + t3.size := by rw [← g5, ByteArray.size_append]
  have hd : v5.data.toList = headL c s n := by
    rw [← g5, app_data, ← g4, app_data, ← g3, app_data, ← g2, app_data, ← g1, app_data, d1, d2, d3]
    rfl
  rw [g1] at a1
  rw [g2] at a2
  rw [g3] at a3
  rw [g4] at a4
  rw [g5] at a5
  have HD : Hid (v5.data.toList = headL c s n) := hd
  have HC1 : Hid (∀ w' : World, _) := C1
  have HC2 : Hid (∀ w' : World, _) := C2
  have HC3 : Hid (∀ w' : World, _) := C3
  have SM : Hid (Small c s n S) := sm
  have hv5 : v5.size ≤ 2000 := by omega
  clear hd h1 h2 h3 g1 g2 g3 g4 g5 d1 d2 d3 hp C1 C2 C3 sm bA
  go_enter Tryz.func37, Tryz.ntmps37
  go_wp2_with fail
  try rw [hW]
  try rw [hX]
  clear hW hX
  go_region_held3 (fun w' => w'.cell? ⟨X, 0, none⟩ = some (.string c) ∧ w'.cell? ⟨X, 1, none⟩ = some (.string s) ∧ w'.cell? ⟨X, 2, none⟩ = some (.slice p n kk)) (go_keep) (first | (go_at_call 63; refine (HC1.out _).mono ?_; rintro e w2 ⟨rfl, hb2⟩; have b2 : Below w1.heap.size w1 w2 := (by first | exact hb2 | exact (Below.refl w1.heap.size w1).drew.trans hb2); have j0 := (b2.cell (p := ⟨X, 0, none⟩) hlt0).trans i0; have j1 := (b2.cell (p := ⟨X, 1, none⟩) hlt0).trans i1; have j2 := (b2.cell (p := ⟨X, 2, none⟩) hlt0).trans i2; clear hb2 HC1) | (go_at_call 63; refine (HC2.out _).mono ?_; rintro e w3 ⟨rfl, hb3⟩; have b3 : Below w1.heap.size w1 w3 := b2.trans (hb3.mono b2.size); have k0 := (b3.cell (p := ⟨X, 0, none⟩) hlt0).trans i0; have k1 := (b3.cell (p := ⟨X, 1, none⟩) hlt0).trans i1; have k2 := (b3.cell (p := ⟨X, 2, none⟩) hlt0).trans i2; clear hb3 HC2) | (go_at_call 63; refine (HC3.out _).mono ?_; rintro e w4 ⟨rfl, hb4⟩; have b4 : Below w1.heap.size w1 w4 := b3.trans (hb4.mono b3.size); have l0 := (b4.cell (p := ⟨X, 0, none⟩) hlt0).trans i0; have l1 := (b4.cell (p := ⟨X, 1, none⟩) hlt0).trans i1; have l2 := (b4.cell (p := ⟨X, 2, none⟩) hlt0).trans i2; clear hb4 HC3))
  have HB4 : Hid (Below w1.heap.size w1 w4) := b4
  have hlt4 := Nat.lt_of_lt_of_le hlt0 b4.size
  have hp4 := hp1.below b4
  clear b2 b3 b4 j0 j1 j2 k0 k1 k2 l0 l1 i0 i1 i2 hp1 a1 a2 a3 a4 a5 y1 y2 y3 y4 y5 z1 z2 z3
  go_wp2_with fail
  go_loopw [3, 4] (fun t i wr => ∃ (m : Nat) (T : ByteArray), m ≤ n ∧ i = .int .i64 m ∧ t = .string T ∧ T.size ≤ 2000 ∧ Hid (T.data.toList = headL c s n ++ symsL S m) ∧ Below w4.heap.size w4 wr) (fun _ i _ => n - (intOf i).toNat)
  case atStart => exact ⟨0, v5, Nat.zero_le _, rfl, rfl, hv5, by rw [show symsL S 0 = [] from rfl, List.append_nil]; exact HD, Below.refl _ _⟩
  case round =>
    obtain ⟨m, T, hm, rfl, rfl, hT, HT, hB⟩ := hrel
    have j2 := (hB.cell (p := ⟨X, 2, none⟩) hlt4).trans l2
    have hsz := hB.size
    clear l2
    by_cases hlt : m < n
    · rcases hp4 with hp4 | ⟨bb, o, rfl, hbb, hp4⟩
      · omega
      obtain ⟨x0, x1, x2, x3, x4⟩ := (hp4.below hB hbb).sym hlt
      have hnm := SM.out.nm m hlt
      have hll := SM.out.len (m := m + 1) (by omega)
      have eS : symsL S (m + 1) = symsL S m ++ symL ⟨(S m).nm, (S m).kd, (S m).pl, (S m).sz, (S m).fr⟩ := rfl
      obtain ⟨nm, e0⟩ : ∃ y, (S m).nm = y := ⟨_, rfl⟩
      obtain ⟨kd, e1⟩ : ∃ y, (S m).kd = y := ⟨_, rfl⟩
      obtain ⟨pl, e2⟩ : ∃ y, (S m).pl = y := ⟨_, rfl⟩
      obtain ⟨sz, e3⟩ : ∃ y, (S m).sz = y := ⟨_, rfl⟩
      obtain ⟨fr, e4⟩ : ∃ y, (S m).fr = y := ⟨_, rfl⟩
      rw [e0] at x0 eS hnm
      rw [e1] at x1 eS
      rw [e2] at x2 eS
      rw [e3] at x3 eS
      rw [e4] at x4 eS
      have D1 : ∀ w', Calls Tryz.prog 63 #[.int .i64 kd, .int .i64 1] w' fun e w'' => e = .returned (.string (leT kd 1)) ∧ Below w'.heap.size w' w'' := fun w' => specLittle0 kd 1 w' (by omega)
      have D2 : ∀ w', Calls Tryz.prog 63 #[.int .i64 pl, .int .i64 2] w' fun e w'' => e = .returned (.string (leT pl 2)) ∧ Below w'.heap.size w' w'' := fun w' => specLittle0 pl 2 w' (by omega)
      have D3 : ∀ w', Calls Tryz.prog 63 #[.int .i64 sz, .int .i64 2] w' fun e w'' => e = .returned (.string (leT sz 2)) ∧ Below w'.heap.size w' w'' := fun w' => specLittle0 sz 2 w' (by omega)
      have D4 : ∀ w', Calls Tryz.prog 63 #[.int .i64 fr, .int .i64 1] w' fun e w'' => e = .returned (.string (leT fr 1)) ∧ Below w'.heap.size w' w'' := fun w' => specLittle0 fr 1 w' (by omega)
      have D0 : ∀ w', Calls Tryz.prog 64 #[.string nm] w' fun e w'' => e = .returned (.string (leT nm.size 1 ++ nm)) ∧ Below w'.heap.size w' w'' := fun w' => nameT nm w' hnm
      have z1 := leT_size kd 1
      have z2 := leT_size pl 2
      have z3 := leT_size sz 2
      have z4 := leT_size fr 1
      have z0 : (leT nm.size 1 ++ nm).size = nm.size + 1 := by rw [ByteArray.size_append, leT_size]; omega
      have d1 := leT_data kd 1
      have d2 := leT_data pl 2
      have d3 := leT_data sz 2
      have d4 := leT_data fr 1
      have d0 : (leT nm.size 1 ++ nm).data.toList = leL (u64 nm.size) 1 ++ nm.data.toList := by rw [app_data, leT_data]
      obtain ⟨t1, h1⟩ : ∃ t, leT kd 1 = t := ⟨_, rfl⟩
      obtain ⟨t2, h2⟩ : ∃ t, leT pl 2 = t := ⟨_, rfl⟩
      obtain ⟨t3, h3⟩ : ∃ t, leT sz 2 = t := ⟨_, rfl⟩
      obtain ⟨t4, h4⟩ : ∃ t, leT fr 1 = t := ⟨_, rfl⟩
      obtain ⟨t0, h0⟩ : ∃ t, leT nm.size 1 ++ nm = t := ⟨_, rfl⟩
      rw [h1] at D1 z1 d1
      rw [h2] at D2 z2 d2
      rw [h3] at D3 z3 d3
      rw [h4] at D4 z4 d4
      rw [h0] at D0 z0 d0
      have a1 := addW t0 t1 (by omega)
      obtain ⟨u1, g1⟩ : ∃ v, t0 ++ t1 = v := ⟨_, rfl⟩
      have y1 : u1.size = t0.size + t1.size := by rw [← g1, ByteArray.size_append]
      have a2 := addW u1 t2 (by omega)
      obtain ⟨u2, g2⟩ : ∃ v, u1 ++ t2 = v := ⟨_, rfl⟩
      have y2 : u2.size = u1.size + t2.size := by rw [← g2, ByteArray.size_append]
      have a3 := addW u2 t3 (by omega)
      obtain ⟨u3, g3⟩ : ∃ v, u2 ++ t3 = v := ⟨_, rfl⟩
      have y3 : u3.size = u2.size + t3.size := by rw [← g3, ByteArray.size_append]
      have a4 := addW u3 t4 (by omega)
      obtain ⟨u4, g4⟩ : ∃ v, u3 ++ t4 = v := ⟨_, rfl⟩
      have y4 : u4.size = u3.size + t4.size := by rw [← g4, ByteArray.size_append]
      have a5 := addW T u4 (by omega)
      obtain ⟨u5, g5⟩ : ∃ v, T ++ u4 = v := ⟨_, rfl⟩
      have hd : u5.data.toList = headL c s n ++ symsL S (m + 1) := by
        rw [← g5, app_data, ← g4, app_data, ← g3, app_data, ← g2, app_data, ← g1, app_data, d0, d1, d2, d3, d4, HT.out, eS]
        unfold symL
        simp only [List.append_assoc]
      have hu5 : u5.size ≤ 2000 := by rw [← len_toList, hd]; exact hll
      rw [g1] at a1
      rw [g2] at a2
      rw [g3] at a3
      rw [g4] at a4
      rw [g5] at a5
      have HD5 : Hid (u5.data.toList = headL c s n ++ symsL S (m + 1)) := hd
      have E0 : Hid (∀ w' : World, _) := D0
      have E1 : Hid (∀ w' : World, _) := D1
      have E2 : Hid (∀ w' : World, _) := D2
      have E3 : Hid (∀ w' : World, _) := D3
      have E4 : Hid (∀ w' : World, _) := D4
      have bY := grown1' wr (.cells #[.string nm, .int .i64 kd, .int .i64 pl, .int .i64 sz, .int .i64 fr] 76)
      have hB1 := hB.trans (bY.mono hsz)
      have s0 : (wr.alloc (.cells #[.string nm, .int .i64 kd, .int .i64 pl, .int .i64 sz, .int .i64 fr] 76)).cell? ⟨wr.heap.size, 0, none⟩ = some (.string nm) := by simp
      have s1 : (wr.alloc (.cells #[.string nm, .int .i64 kd, .int .i64 pl, .int .i64 sz, .int .i64 fr] 76)).cell? ⟨wr.heap.size, 1, none⟩ = some (.int .i64 kd) := by simp
      have s2 : (wr.alloc (.cells #[.string nm, .int .i64 kd, .int .i64 pl, .int .i64 sz, .int .i64 fr] 76)).cell? ⟨wr.heap.size, 2, none⟩ = some (.int .i64 pl) := by simp
      have s3 : (wr.alloc (.cells #[.string nm, .int .i64 kd, .int .i64 pl, .int .i64 sz, .int .i64 fr] 76)).cell? ⟨wr.heap.size, 3, none⟩ = some (.int .i64 sz) := by simp
      have s4 : (wr.alloc (.cells #[.string nm, .int .i64 kd, .int .i64 pl, .int .i64 sz, .int .i64 fr] 76)).cell? ⟨wr.heap.size, 4, none⟩ = some (.int .i64 fr) := by simp
      have sl : wr.heap.size < (wr.alloc (.cells #[.string nm, .int .i64 kd, .int .i64 pl, .int .i64 sz, .int .i64 fr] 76)).heap.size := by simp
      clear e0 e1 e2 e3 e4 eS h0 h1 h2 h3 h4 g1 g2 g3 g4 g5 d0 d1 d2 d3 d4 D0 D1 D2 D3 D4 hd y1 y2 y3 y4 z0 z1 z2 z3 z4 hll bY hB
      go_wp2_with fail
      obtain ⟨W, hW⟩ : ∃ W, (wr.alloc (.cells #[.string nm, .int .i64 kd, .int .i64 pl, .int .i64 sz, .int .i64 fr] 76)) = W := ⟨_, rfl⟩
      obtain ⟨Y, hY⟩ : ∃ Y, wr.heap.size = Y := ⟨_, rfl⟩
      rw [hW] at s0 s1 s2 s3 s4 sl hB1 ⊢
      rw [hY] at s0 s1 s2 s3 s4 sl ⊢
      have HBW : Hid (Below w4.heap.size w4 W) := hB1
      have hsW := hB1.size
      clear hW hY hB1 x0 x1 x2 x3 x4 j2 hp4
      go_region_held3 (fun w' => w'.cell? ⟨Y, 0, none⟩ = some (.string nm) ∧ w'.cell? ⟨Y, 1, none⟩ = some (.int .i64 kd) ∧ w'.cell? ⟨Y, 2, none⟩ = some (.int .i64 pl) ∧ w'.cell? ⟨Y, 3, none⟩ = some (.int .i64 sz) ∧ w'.cell? ⟨Y, 4, none⟩ = some (.int .i64 fr)) (go_keep) (first | (go_at_call 64; refine (E0.out _).mono ?_; rintro e w5 ⟨rfl, hb5⟩; have b5 : Below W.heap.size W w5 := (by first | exact hb5 | exact (Below.refl W.heap.size W).drew.trans hb5); have p0 := (b5.cell (p := ⟨Y, 0, none⟩) sl).trans s0; have p1 := (b5.cell (p := ⟨Y, 1, none⟩) sl).trans s1; have p2 := (b5.cell (p := ⟨Y, 2, none⟩) sl).trans s2; have p3 := (b5.cell (p := ⟨Y, 3, none⟩) sl).trans s3; have p4 := (b5.cell (p := ⟨Y, 4, none⟩) sl).trans s4; clear hb5 E0) | (go_at_call 63; refine (E1.out _).mono ?_; rintro e w6 ⟨rfl, hb6⟩; have b6 : Below W.heap.size W w6 := b5.trans (hb6.mono b5.size); have o0 := (b6.cell (p := ⟨Y, 0, none⟩) sl).trans s0; have o1 := (b6.cell (p := ⟨Y, 1, none⟩) sl).trans s1; have o2 := (b6.cell (p := ⟨Y, 2, none⟩) sl).trans s2; have o3 := (b6.cell (p := ⟨Y, 3, none⟩) sl).trans s3; have o4 := (b6.cell (p := ⟨Y, 4, none⟩) sl).trans s4; clear hb6 E1) | (go_at_call 63; refine (E2.out _).mono ?_; rintro e w7 ⟨rfl, hb7⟩; have b7 : Below W.heap.size W w7 := b6.trans (hb7.mono b6.size); have r0 := (b7.cell (p := ⟨Y, 0, none⟩) sl).trans s0; have r1 := (b7.cell (p := ⟨Y, 1, none⟩) sl).trans s1; have r2 := (b7.cell (p := ⟨Y, 2, none⟩) sl).trans s2; have r3 := (b7.cell (p := ⟨Y, 3, none⟩) sl).trans s3; have r4 := (b7.cell (p := ⟨Y, 4, none⟩) sl).trans s4; clear hb7 E2) | (go_at_call 63; refine (E3.out _).mono ?_; rintro e w8 ⟨rfl, hb8⟩; have b8 : Below W.heap.size W w8 := b7.trans (hb8.mono b7.size); have n0 := (b8.cell (p := ⟨Y, 0, none⟩) sl).trans s0; have n1 := (b8.cell (p := ⟨Y, 1, none⟩) sl).trans s1; have n2 := (b8.cell (p := ⟨Y, 2, none⟩) sl).trans s2; have n3 := (b8.cell (p := ⟨Y, 3, none⟩) sl).trans s3; have n4 := (b8.cell (p := ⟨Y, 4, none⟩) sl).trans s4; clear hb8 E3) | (go_at_call 63; refine (E4.out _).mono ?_; rintro e w9 ⟨rfl, hb9⟩; have b9 : Below W.heap.size W w9 := b8.trans (hb9.mono b8.size); have f0 := (b9.cell (p := ⟨Y, 0, none⟩) sl).trans s0; have f1 := (b9.cell (p := ⟨Y, 1, none⟩) sl).trans s1; have f2 := (b9.cell (p := ⟨Y, 2, none⟩) sl).trans s2; have f3 := (b9.cell (p := ⟨Y, 3, none⟩) sl).trans s3; have f4 := (b9.cell (p := ⟨Y, 4, none⟩) sl).trans s4; clear hb9 E4))
      have HB9 : Hid (Below w4.heap.size w4 w9) := HBW.out.trans (b9.mono hsW)
      clear b5 b6 b7 b8 b9 p0 p1 p2 p3 p4 o0 o1 o2 o3 o4 r0 r1 r2 r3 r4 n0 n1 n2 n3 n4 f0 f1 f2 f3 f4 s0 s1 s2 s3 s4 a1 a2 a3 a4 a5
      go_wp2_with fail
      go_roundw
      case rel => exact ⟨m + 1, u5, by omega, by go_num, rfl, hu5, HD5, HB9.out⟩
      case measure => simp [intOf]; omega
    · obtain rfl : m = n := by omega
      obtain ⟨x, hx, hx1⟩ : ∃ x : Nat, sumL (bodyL c s m S) = (x : Int) ∧ x < 65521 := by
        obtain ⟨h0, h1⟩ := sumL_bd (bodyL c s m S)
        exact ⟨(sumL (bodyL c s m S)).toNat, by omega, by omega⟩
      have sm := fun w' => specSum0_any T w' (by omega)
      rw [show T.data.toList = bodyL c s m S from HT.out, hx] at sm
      have lt : ∀ w', Calls Tryz.prog 63 #[.int .i64 x, .int .i64 4] w' fun e w'' => e = .returned (.string (leT x 4)) ∧ Below w'.heap.size w' w'' := fun w' => specLittle0 x 4 w' (by omega)
      have zs := leT_size x 4
      have ds : (T ++ leT x 4) = ⟨(sealL (bodyL c s m S)).toArray⟩ := bytes_eq (by rw [app_data, HT.out, leT_data]; unfold sealL; rw [hx]; rfl)
      obtain ⟨Z, hZ⟩ : ∃ t, leT x 4 = t := ⟨_, rfl⟩
      rw [hZ] at lt zs ds
      have ad := addW T Z (by omega)
      have DS : Hid (T ++ Z = ⟨(sealL (bodyL c s m S)).toArray⟩) := ds
      have LT : Hid (∀ w' : World, _) := lt
      have HBE : Hid (Below w.heap.size w wr) := HA.out.trans ((HB4.out.trans (hB.mono HB4.out.size)).mono HA.out.size)
      have SMM : Hid (∀ w' : World, _) := sm
      clear hZ ds lt sm hx hp4 hB
      go_wp2_with fail
      refine (SMM.out _).mono ?_
      rintro e w5 ⟨rfl, rfl⟩
      go_wp2_with fail
      refine (LT.out _).mono ?_
      rintro e w6 ⟨rfl, hb6⟩
      have HB6 : Hid (Below w.heap.size w w6) := HBE.out.trans (hb6.mono HBE.out.size)
      clear hb6 j2
      go_wp2_with fail
      go_ret
      exact ⟨by show Ending.returned (.string (T ++ Z)) = _; rw [DS.out], HB6.out⟩
end Go.Proofs.YthihlbfmpkjhpaaGreatDoor

namespace Go.Proofs.YthihlbfmpkjhpaaGreatDoor
open Go Go.RowKit
set_option linter.unusedVariables false

theorem ImgIs.small {c s : ByteArray} {n : Nat} {S : Nat → SymD} {L : Nat → Int × Int} {x y : Int} (h : ImgIs n c.size s.size S L x y 0) : Small c s n S := by
  have key : n ≤ 16 ∧ c.size ≤ 1024 ∧ s.size ≤ 256 ∧ ∀ j, j < n → fltI c.size s.size S j = 0 := by
    generalize hz : (0 : Int) = z at h
    cases h with
    | many => cases hz
    | size => cases hz
    | syms x y a b d hs hy => exact absurd hz.symm hy
    | fn k a b d hs hk hf hb hn => exact absurd hz.symm hn
    | ok a b d hs => exact ⟨a, b, d, hs.all⟩
  obtain ⟨k1, k2, k3, k4⟩ := key
  refine ⟨k1, k2, k3, fun i hi => ?_⟩
  obtain ⟨h1, _⟩ := flt_ok (k4 i hi)
  rcases Nat.lt_or_ge 20 (S i).nm.size with h2 | h2
  · rw [nameB_long _ h2] at h1; cases h1
  · exact h2
/-- Both tell of an image whether it is right, and one that is right is not great. -/
theorem okSmall (c s : ByteArray) (n : Nat) (S : Nat → SymD) (hc : c.size ≤ 1048576) (hs : s.size ≤ 1048576) (hn : n ≤ 1048576) (hw : ∀ i, i < n → (S i).wf) : ∃ b : Bool, OKIs c s n S b ∧ PrOK c s n S b ∧ (b = true → Small c s n S) := by
  obtain ⟨L, hL⟩ := lint_all c s n S hw
  obtain ⟨x, y, z, hl⟩ := img_ex n c.size s.size S L
  have h7 : ∀ p kk w', SymsAt w' p n S → Calls Tryz.prog 30 #[.agg #[.string c, .string s, .slice p n kk]] w' fun e w'' => ThreeN w'.heap.size x y z w' e w'' :=
    fun p kk w' hp => specImg c s p n kk S L w' hc hs hn hw hp x y z hl (fun h i hi hk => (hL h i hi hk).1)
  refine ⟨z == 0, fun p kk w hp => specOK c s p n kk S x y z w (h7 p kk) hp, progOK c s n S x y z (fun p kk w hkk hLd hp => progImg c s p n kk S L w hLd hkk hc hs hn hw hp x y z hl hL), fun h => ?_⟩
  obtain rfl : z = 0 := eq_of_beq h
  exact hl.small

/-- What ImageText answers. -/
def txtX (c s : ByteArray) (n : Nat) (S : Nat → SymD) (b : Bool) : ByteArray := if b = true then ⟨(sealL (bodyL c s n S)).toArray⟩ else { data := #[] }
def codX (b : Bool) : Int := if b = true then 0 else 1
def TxtAns (B : Nat) (t : ByteArray) (x : Int) (w : World) (e : Ending) (w' : World) : Prop := e = .returned (.tuple #[.string t, .int .i64 x]) ∧ Below B w w'

theorem specTxt (c s : ByteArray) (p : Option Addr) (n kk : Nat) (S : Nat → SymD) (b : Bool) (w : World) (hb : OKIs c s n S b) (hsm : b = true → Small c s n S) (hp : SymsAt w p n S) :
    Calls Tryz.prog 17 #[.agg #[.string c, .string s, .slice p n kk]] w fun e w' => TxtAns w.heap.size (txtX c s n S b) (codX b) w e w' := by
  have bA := grown1' w (.cells #[.string c, .string s, .slice p n kk] 30)
  have hp1 := hp.below bA
  have H := hb p kk _ hp1
  have i0 : (w.alloc (.cells #[.string c, .string s, .slice p n kk] 30)).cell? ⟨w.heap.size, 0, none⟩ = some (.string c) := by simp
  have i1 : (w.alloc (.cells #[.string c, .string s, .slice p n kk] 30)).cell? ⟨w.heap.size, 1, none⟩ = some (.string s) := by simp
  have i2 : (w.alloc (.cells #[.string c, .string s, .slice p n kk] 30)).cell? ⟨w.heap.size, 2, none⟩ = some (.slice p n kk) := by simp
  have hl0 : w.heap.size < (w.alloc (.cells #[.string c, .string s, .slice p n kk] 30)).heap.size := by simp
  cases b
  · unfold txtX codX
    rw [if_neg (by decide), if_neg (by decide)]
    go_enter Tryz.func17, Tryz.ntmps17
    go_wp2_with fail
    refine H.mono ?_
    rintro e w2 ⟨rfl, hb2⟩
    have B2 := bA.trans (hb2.mono bA.size)
    clear hb2
    go_wp2_with fail
    go_ret2
    exact ⟨rfl, B2⟩
  · unfold txtX codX
    rw [if_pos rfl, if_pos rfl]
    have SM : Hid (Small c s n S) := hsm rfl
    obtain ⟨T, hT⟩ : ∃ T : ByteArray, (⟨(sealL (bodyL c s n S)).toArray⟩ : ByteArray) = T := ⟨_, rfl⟩
    have tx := fun w' (h : SymsAt w' p n S) => textS c s p n kk S w' SM.out h
    rw [hT] at tx ⊢
    have TX : Hid (∀ w' : World, SymsAt w' p n S → _) := tx
    clear hT tx hsm
    go_enter Tryz.func17, Tryz.ntmps17
    go_wp2_with fail
    refine H.mono ?_
    rintro e w2 ⟨rfl, hb2⟩
    have B2 := bA.trans (hb2.mono bA.size)
    have j0 := (hb2.cell (p := ⟨w.heap.size, 0, none⟩) hl0).trans i0
    have j1 := (hb2.cell (p := ⟨w.heap.size, 1, none⟩) hl0).trans i1
    have j2 := (hb2.cell (p := ⟨w.heap.size, 2, none⟩) hl0).trans i2
    have hp2 := hp1.below hb2
    clear hb2 i0 i1 i2 H
    go_wp2_with fail
    refine (TX.out _ hp2).mono ?_
    rintro e w3 ⟨rfl, hb3⟩
    have B3 := B2.trans (hb3.mono B2.size)
    clear hb3 j0 j1 j2
    go_wp2_with fail
    go_ret2
    exact ⟨rfl, B3⟩

set_option maxHeartbeats 2000000 in
theorem progTxt (c s : ByteArray) (p : Option Addr) (n kk : Nat) (S : Nat → SymD) (b : Bool) (w : World) (hkk : n ≤ kk) (hb : PrOK c s n S b) (hsm : b = true → Small c s n S) (hL : Laid w) (hp : SymsAt w p n S) :
    Calls Tryz.prog 18 #[.agg #[.string c, .string s, .slice p n kk]] w fun e w' => TxtAns w.heap.size (txtX c s n S b) (codX b) w e w' := by
  have bA := grown1' w (.cells #[.string c, .string s, .slice p n kk] 30)
  have hp1 := hp.below bA
  have H := hb p kk _ hkk (laid_below hL bA) hp1
  have lie := Lies.new w #[.string c, .string s, .slice p n kk] 30
  clear hL
  cases b
  · unfold txtX codX
    rw [if_neg (by decide), if_neg (by decide)]
    clear lie
    go_enter Tryz.func18, Tryz.ntmps18
    go_wp2_with fail
    refine H.mono ?_
    rintro e w2 ⟨rfl, hb2⟩
    have B2 := bA.trans (hb2.mono bA.size)
    clear hb2
    go_wp2_with fail
    go_ret2
    exact ⟨rfl, B2⟩
  · unfold txtX codX
    rw [if_pos rfl, if_pos rfl]
    have SM : Hid (Small c s n S) := hsm rfl
    have hlen := SM.out.len (m := n) (Nat.le_refl _)
    obtain ⟨T, hT⟩ : ∃ T : ByteArray, (⟨(sealL (bodyL c s n S)).toArray⟩ : ByteArray) = T := ⟨_, rfl⟩
    have HT : Hid ((⟨(sealL (bodyL c s n S)).toArray⟩ : ByteArray) = T) := hT
    rw [hT]
    have HLEN : Hid ((bodyL c s n S).length ≤ 2000) := hlen
    have hne : bodyL c s n S ≠ [] := by
      intro e
      have : (bodyL c s n S).length = 0 := by rw [e]; rfl
      unfold bodyL at this
      rw [List.length_append, headL_len] at this
      omega
    have HNE : Hid (bodyL c s n S ≠ []) := hne
    obtain ⟨X, hX⟩ : ∃ X, w.heap.size = X := ⟨_, rfl⟩
    rw [hX] at lie
    have hltX : X < (w.alloc (.cells #[.string c, .string s, .slice p n kk] 30)).heap.size := lie.lt
    clear hT hsm hlen hne hp
    go_enter Tryz.func18, Tryz.ntmps18
    go_wp2_with fail
    refine H.mono ?_
    rintro e w2 ⟨rfl, hb2⟩
    have B2 : Hid (Below w.heap.size w w2) := bA.trans (hb2.mono bA.size)
    have lie2 := lie.below hb2 hltX
    have hp2 := hp1.below hb2
    have hX2 : X < w2.heap.size := lie2.lt
    have bW := grown1' w2 (.cells #[.pointer none, .slice none 0 0] 63)
    have isb : Wr (w2.alloc (.cells #[.pointer none, .slice none 0 0] 63)) w2.heap.size w2.heap.size [] := Lib.fresh_isBuilder 63 5 w2
    obtain ⟨w3, hW3⟩ : ∃ W, (w2.alloc (.cells #[.pointer none, .slice none 0 0] 63)) = W := ⟨_, rfl⟩
    obtain ⟨B, hB⟩ : ∃ B, w2.heap.size = B := ⟨_, rfl⟩
    have low2 : SymsLow w2 B p n S := by
      rcases hp2 with h | ⟨b, o, e, hb, hv⟩
      · exact .inl h
      · exact .inr ⟨b, o, e, by rw [← hB]; exact hb, hv⟩
    have l2 := lie2.cell (j := 0) rfl
    have l3 := lie2.cell (j := 1) rfl
    have l4 := lie2.cell (j := 2) rfl
    rw [hW3, hB] at bW isb
    rw [hB] at hX2
    have LIE2 : Hid (Lies w2 X 30 #[.string c, .string s, .slice p n kk]) := lie2
    have W3 : Hid (Wr w3 B B []) := isb
    have BW : Hid (Below B w2 w3) := bW
    have s3 : B ≤ w3.heap.size := by rw [← hB]; exact bW.size
    have LOW3 : Hid (SymsLow w3 B p n S) := low2.below bW
    have hneX : X ≠ B := by omega
    have hbs : w.heap.size ≤ B := by omega
    have HX : Hid (w.heap.size = X) := hX
    clear hb2 H bA lie lie2 hp1 hp2 low2 isb bW
    go_wp2_with fail
    try rw [hW3]
    try rw [hB]
    clear hW3 hB hX
    refine (putText B B [] { data := #[80, 73, 77, 49] } w3 W3.out s3 (by simp) (by decide)).mono ?_
    rintro e w4 ⟨rfl, hw4, hb4, hk4⟩
    have s4 : B ≤ w4.heap.size := Nat.le_trans s3 hb4.size
    have W4 : Hid (Wr w4 B B [80, 73, 77, 49]) := hw4
    have BW4 : Hid (Below B w2 w4) := BW.out.trans hb4
    have LOW4 : Hid (SymsLow w4 B p n S) := LOW3.out.below hb4
    have lie4 := LIE2.out.below BW4.out hX2
    have m2 := lie4.cell (j := 0) rfl
    have m3 := lie4.cell (j := 1) rfl
    have m4 := lie4.cell (j := 2) rfl
    clear hw4 hb4 hk4 W3 lie4 l2 l3 l4
    go_wp2_with fail
    refine (putImg B B c s p n kk S w4 W4.out s4 SM.out LOW4.out).mono ?_
    rintro e w5 ⟨rfl, hw5, hb5, hk5⟩
    have s5 : B ≤ w5.heap.size := Nat.le_trans s4 hb5.size
    have BW5 : Hid (Below B w2 w5) := BW4.out.trans hb5
    have sl := sealedC B B (bodyL c s n S) w5 hw5 s5 HNE.out HLEN.out
    rw [HT.out] at sl
    clear hw5 hb5 hk5 m2 m3 m4 W4
    go_wp2_with fail
    refine sl.mono ?_
    rintro e w6 ⟨rfl, hb6⟩
    have BE : Hid (Below w.heap.size w w6) := B2.out.trans ((BW5.out.trans hb6).mono hbs)
    clear hb6 sl
    go_wp2_with fail
    go_ret2
    exact ⟨rfl, BE.out⟩
theorem txtBoth (c s : ByteArray) (n : Nat) (S : Nat → SymD) (hc : c.size ≤ 1048576) (hs : s.size ≤ 1048576) (hn : n ≤ 1048576) (hw : ∀ i, i < n → (S i).wf) : ∃ (x : ByteArray) (y : Int),
    (∀ p kk w, SymsAt w p n S → Calls Tryz.prog 17 #[.agg #[.string c, .string s, .slice p n kk]] w fun e w' => TxtAns w.heap.size x y w e w') ∧
    (∀ p kk w, n ≤ kk → Laid w → SymsAt w p n S → Calls Tryz.prog 18 #[.agg #[.string c, .string s, .slice p n kk]] w fun e w' => TxtAns w.heap.size x y w e w') := by
  obtain ⟨b, h1, h2, h3⟩ := okSmall c s n S hc hs hn hw
  exact ⟨_, _, fun p kk w hp => specTxt c s p n kk S b w h1 h3 hp, fun p kk w hkk hL hp => progTxt c s p n kk S b w hkk h2 h3 hL hp⟩
end Go.Proofs.YthihlbfmpkjhpaaGreatDoor
