/- The program's writer of objects: what its methods put. -/
import Derived.Test.YtdcjddiigipdmaaBldO
import Derived.Test.YtdcjddiigipdmaaWrtP
import Derived.Test.YtdcjddiigipdmaaLitC
import Derived.Test.YtdcjddiigipdmaaSum
import Derived.Test.YtdcjddiigipdmaaObjT
import Derived.Deep.RegionHeld3
namespace Go.Proofs.Ytdcjddiigipdmaa
open Go Go.RowKit
set_option linter.unusedVariables false

/-- The writer at block b holds l; what it owns lies from B on. -/
def Wr (w : World) (B b : Nat) (l : List UInt8) : Prop := Lib.IsBuilder 76 5 B b (Lib.byteCells l) w
theorem Wr.lt {w : World} {B b : Nat} {l : List UInt8} (h : Wr w B b l) : b < w.heap.size := by
  rcases h with h | h
  · exact h.lt
  · exact h.lt
theorem Wr.below {w w' : World} {B b : Nat} {l : List UInt8} (h : Wr w B b l) (hb : Below w.heap.size w w') : Wr w' B b l := by
  have hlt := h.lt
  rcases h with ⟨h0, v, h1, h2, h3⟩ | ⟨h0, v, h1, h2, h3⟩
  · exact .inl ⟨h0, v, (hb.block b hlt).trans h1, rowBelowW h2 hb, h3⟩
  · exact .inr ⟨h0, v, (hb.block b hlt).trans h1, rowBelowW h2 hb, h3⟩
/-- What a method of the writer leaves. -/
def WrAns (v : Value) (B b : Nat) (l : List UInt8) (w : World) (e : Ending) (w' : World) : Prop := e = .returned v ∧ Wr w' B b l ∧ Below B w w' ∧ KeepT b w w'

theorem putText (B b : Nat) (l : List UInt8) (s : ByteArray) (w : World) (h : Wr w B b l) (hB : B ≤ w.heap.size) (hl : l.length ≤ 1000000) (hs : s.size ≤ 1000000) :
    Calls Try.prog 51 #[.pointer (some ⟨b, 0, none⟩), .string s] w fun e w' => WrAns (.tuple #[.int .i64 s.size, .nilIface]) B b (l ++ s.data.toList) w e w' := by
  refine (writeW B b (Lib.byteCells l) s w h (by rw [Lib.byteCells_length]; omega) hB).mono ?_
  rintro e w' ⟨h1, h2, h3, h4⟩
  rw [Lib.strCells_eq, ← Lib.byteCells_append] at h2
  exact ⟨h1, .inr h2, h3, h4⟩

set_option maxRecDepth 100000 in
set_option maxHeartbeats 2000000 in
theorem putNum (B b : Nat) (l : List UInt8) (v : Int) (n : Nat) (w : World) (h : Wr w B b l) (hB : B ≤ w.heap.size) (hl : l.length ≤ 1000000) (hn : n ≤ 8) :
    Calls Try.prog 98 #[.pointer (some ⟨b, 0, none⟩), .int .i64 v, .int .i64 n] w fun e w' => WrAns (.tuple #[]) B b (l ++ leL (u64 v) n) w e w' := by
  have hwu := wrap_u64 v
  have hult := u64_lt v
  have H : Hid (Wr w B b l) := h
  have bq := leT_size v n
  have bd := leT_data v n
  have sp : ∀ w' : World, Calls Try.prog 124 #[.int .u64 (u64 v), .int .i64 n] w' fun e w'' => e = .returned (.string (leT v n)) ∧ Below w'.heap.size w' w'' := fun w' => spread_u64 (u64 v) n w' hn hult
  obtain ⟨t, ht⟩ : ∃ t, leT v n = t := ⟨_, rfl⟩
  obtain ⟨u, hu⟩ : ∃ u, u64 v = u := ⟨_, rfl⟩
  obtain ⟨r, hr⟩ : ∃ r, leL u n = r := ⟨_, rfl⟩
  rw [ht] at bq bd sp
  rw [hu] at hwu bd sp ⊢
  rw [hr] at bd ⊢
  have BD : Hid (t.data.toList = r) := bd
  have hlt := h.lt
  clear h ht hu hr bd hult
  go_enter Try.func98, Try.ntmps98
  go_wp2_with fail
  go_region_held3 (fun w' => True) (trivial) (first | (go_at_call 124; refine (sp _).mono ?_; rintro e w1 ⟨rfl, hb1⟩; have b1 : Below w.heap.size w w1 := (by first | exact hb1 | exact (Below.refl w.heap.size w).drew.trans hb1)) | (go_at_call 51; refine (putText B b l t _ (H.out.below b1) (Nat.le_trans hB b1.size) hl (by omega)).mono ?_; rintro e w2 ⟨rfl, hw2, hb2, hk2⟩; have HW2 : Hid (Wr w2 B b (l ++ t.data.toList)) := hw2; have HB2 : Hid (Below B w w2) := (b1.mono hB).trans hb2; have HK2 : Hid (KeepT b w w2) := (KeepT.of_below b1).trans hk2; clear hw2 hb2 hk2))
  all_goals
    go_end0
    exact ⟨rfl, by rw [← BD.out]; exact HW2.out, HB2.out, HK2.out⟩

theorem putCounted (B b : Nat) (l : List UInt8) (t : ByteArray) (n : Nat) (w : World) (h : Wr w B b l) (hB : B ≤ w.heap.size) (hl : l.length ≤ 900000) (hn : n ≤ 8) (ht : t.size ≤ 1000000) :
    Calls Try.prog 123 #[.pointer (some ⟨b, 0, none⟩), .string t, .int .i64 n] w fun e w' => WrAns (.tuple #[]) B b (l ++ leL (u64 t.size) n ++ t.data.toList) w e w' := by
  have hz := leL_len (u64 t.size) n
  have H : Hid (Wr w B b l) := h
  clear h
  go_enter Try.func123, Try.ntmps123
  go_wp2_with fail
  refine (putNum B b l t.size n _ H.out hB (by omega) hn).mono ?_
  rintro e w1 ⟨rfl, hw1, hb1, hk1⟩
  have s1 := hb1.size
  have K1 : Hid (KeepT b w w1) := hk1
  have H1 : Hid (Wr w1 B b (l ++ leL (u64 t.size) n)) := hw1
  have B1 : Hid (Below B w w1) := hb1
  clear hw1 hb1 hk1
  go_wp2_with fail
  refine (putText B b _ t _ H1.out (by omega) (by rw [List.length_append, hz]; omega) ht).mono ?_
  rintro e w2 ⟨rfl, hw2, hb2, hk2⟩
  have K2 : Hid (KeepT b w w2) := K1.out.trans hk2
  have H2 : Hid (Wr w2 B b (l ++ leL (u64 t.size) n ++ t.data.toList)) := hw2
  have B2 : Hid (Below B w w2) := B1.out.trans hb2
  clear hw2 hb2 hk2
  go_wp2_with fail
  go_end0
  exact ⟨rfl, H2.out, B2.out, K2.out⟩

end Go.Proofs.Ytdcjddiigipdmaa
