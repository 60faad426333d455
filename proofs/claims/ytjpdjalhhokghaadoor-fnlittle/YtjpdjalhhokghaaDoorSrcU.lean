/- Sources, texts drawn out of them, choices: contracts. -/
import Derived.Test.YtjpdjalhhokghaaDoorSrcT
namespace Go.Proofs.YtjpdjalhhokghaaDoor
open Go.RowKit
set_option linter.unusedVariables false

/-- '+' on texts that are not too long. -/
theorem add_any (a b : ByteArray) (h : a.size + b.size ≤ 1000000) : ∀ w : World, (Op.stringOp .add a b).run Tryd.prog w = .ok (.string (a ++ b)) w :=
  fun w => run_string_add_sum w a b (by omega)

/-- 'string([]byte{x})', the slice laid just now. -/
theorem conv_one (w : World) (x : UInt8) : (convert 22 9 (.slice (some ⟨w.heap.size, 0, none⟩) 1 1)).run Tryd.prog (w.alloc (.cells #[.int .u8 (x.toNat : Int)] 5)) = .ok (.string ⟨#[x]⟩) (w.alloc (.cells #[.int .u8 (x.toNat : Int)] 5)) :=
  run_convert_bytes_back (w.alloc (.cells #[.int .u8 (x.toNat : Int)] 5)) 22 9 5 ⟨w.heap.size, 0, none⟩ 1 [x] Tryd.underlying22 Tryd.underlying5 Tryd.underlying9 (fun j hj => by
    obtain rfl : j = 0 := by simp at hj; omega
    exact World.news_of_block (cs := #[.int .u8 (x.toNat : Int)]) (t := 5) (fr := (0, 0)) (heap_alloc_new w _) 0 _ rfl)
theorem conv_one_drew (w : World) (x : UInt8) : (convert 22 9 (.slice (some ⟨w.heap.size, 0, none⟩) 1 1)).run Tryd.prog (w.alloc (.cells #[.int .u8 (x.toNat : Int)] 5)).drew = .ok (.string ⟨#[x]⟩) (w.alloc (.cells #[.int .u8 (x.toNat : Int)] 5)).drew :=
  run_convert_bytes_back (w.alloc (.cells #[.int .u8 (x.toNat : Int)] 5)).drew 22 9 5 ⟨w.heap.size, 0, none⟩ 1 [x] Tryd.underlying22 Tryd.underlying5 Tryd.underlying9 (fun j hj => by
    obtain rfl : j = 0 := by simp at hj; omega
    exact World.news_of_block (cs := #[.int .u8 (x.toNat : Int)]) (t := 5) (fr := (0, 0)) (heap_alloc_new w _) 0 _ rfl)

/-- A text drawn is as long as asked. -/
theorem textOf_any (len cap B n : Nat) (a : Option Addr) (w : World) (hn : n ≤ 1000000) (hB : Bytes w B a len) (hb : B ≤ w.heap.size) :
    Calls Tryd.prog 15 #[.slice a len cap, .int .i64 n] w fun e w' => ∃ l : List UInt8, l.length = n ∧ e = .returned (.string ⟨l.toArray⟩) ∧ Below w.heap.size w w' := by
  go_enter Tryd.func15, Tryd.ntmps15
  go_wp2_with fail
  refine (source_any len cap a _ hB.1).mono ?_
  rintro e w1 ⟨sd, rfl, hs, hbel, hsz⟩
  go_wp2_with fail
  refine (some_nat _ len cap B n a sd 0 _ hs (by omega) (hB.below (hbel.mono hb)) hb hsz).mono ?_
  rintro e w2 ⟨l, sd2, hl, rfl, _, hg⟩
  go_wp2
  go_ret
  exact ⟨l, hl, rfl, hbel.trans (Below.refl _ _ |>.grown hg (by omega) (fun k e => by injection e; omega))⟩

theorem textOf_int (len cap B : Nat) (n : Int) (a : Option Addr) (w : World) (hn0 : 0 ≤ n) (hn : n ≤ 1000000) (hB : Bytes w B a len) (hb : B ≤ w.heap.size) :
    Calls Tryd.prog 15 #[.slice a len cap, .int .i64 n] w fun e w' => ∃ l : List UInt8, (l.length : Int) = n ∧ e = .returned (.string ⟨l.toArray⟩) ∧ Below w.heap.size w w' := by
  obtain ⟨n, rfl⟩ := Int.eq_ofNat_of_zero_le hn0
  exact (textOf_any len cap B n a w (by omega) hB hb).mono fun e w' ⟨l, hl, he, hw⟩ => ⟨l, by rw [hl], he, hw⟩

end Go.Proofs.YtjpdjalhhokghaaDoor
