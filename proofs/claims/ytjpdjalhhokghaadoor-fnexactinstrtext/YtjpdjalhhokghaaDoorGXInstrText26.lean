/- InstrText of the program: the contract. -/
import Derived.Test.YtjpdjalhhokghaaDoorGXInstrText21
import Derived.Test.YtjpdjalhhokghaaDoorGXInstrText25
import Derived.Lib.Join
import Derived.Deep.RegionHeld3
import Derived.Deep.AppendLies
namespace Go.Proofs.YtjpdjalhhokghaaDoor.Tx
open Go.RowKit
set_option linter.unusedVariables false

theorem Tryd.info_str : (Tryd.prog.info? 9).map (fun i => (i.zero, i.size, i.bytes)) = some (some (.string ⟨#[]⟩), 1, 16) := by kernel_rfl
theorem info_parts {i? : Option TypeInfo} {z : Value} {a b : Nat} (h : i?.map (fun i => (i.zero, i.size, i.bytes)) = some (some z, a, b)) : ∃ i, i? = some i ∧ i.zero = some z ∧ i.size = a ∧ i.bytes = b := by
  obtain ⟨i, hi, he⟩ := Option.map_eq_some_iff.1 h
  simp only [Prod.mk.injEq] at he
  exact ⟨i, hi, he.1, he.2.1, he.2.2⟩

def letterOK (l : UInt8) : Prop := l = 100 ∨ l = 49 ∨ l = 50 ∨ l = 105
def offL (l : UInt8) : Nat := if l = 100 then 1 else if l = 49 then 2 else if l = 50 then 3 else 4
def valL (l : UInt8) (rd r1 r2 im : Int) : Int := if l = 100 then rd else if l = 49 then r1 else if l = 50 then r2 else im
theorem fldAny (l : UInt8) (hl : letterOK l) (b : Nat) (w : World) :
    Calls Tryd.prog 67 #[.pointer (some ⟨b, 0, none⟩), .int .u8 (l.toNat : Int)] w fun e w' => e = .returned (.pointer (some ⟨b, offL l, none⟩)) ∧ w' = w := by
  rcases hl with rfl | rfl | rfl | rfl
  · exact fld100 b w
  · exact fld49 b w
  · exact fld50 b w
  · exact fld105 b w
theorem five_at {w : World} {b : Nat} {op rd r1 r2 im : Int} (h : Five w b op rd r1 r2 im) (l : UInt8) (hl : letterOK l) : w.cell? ⟨b, offL l, none⟩ = some (.int .i64 (valL l rd r1 r2 im)) := by
  rcases hl with rfl | rfl | rfl | rfl
  · exact h.c1
  · exact h.c2
  · exact h.c3
  · exact h.c4
theorem fldTxt (l : UInt8) (hl : letterOK l) (v : Int) (h : In64 v) (w : World) (hp : Pow w) :
    Calls Tryd.prog 78 #[.int .u8 (l.toNat : Int), .int .i64 v] w fun e w' => e = .returned (.string (txt (wordF l v))) ∧ Below w.heap.size w w' := by
  rcases hl with rfl | rfl | rfl | rfl
  · exact fldReg 100 (by decide) v h w hp
  · exact fldReg 49 (by decide) v h w hp
  · exact fldReg 50 (by decide) v h w hp
  · exact fldImm v h w hp

def vals (ls : List (List UInt8)) : List Value := ls.map fun t => .string (txt t)
theorem vals_snoc (ls : List (List UInt8)) (x : List UInt8) : vals (ls ++ [x]) = vals ls ++ vals [x] := by simp [vals]
/-- The words of an instruction's text behind its name. -/
def fieldsL (told : List UInt8) (rd r1 r2 im : Int) : List (List UInt8) := told.map fun l => wordF l (valL l rd r1 r2 im)

/-- What a form tells. -/
structure Told (f : Int) (told : ByteArray) : Prop where
  call : ∀ w, Calls Tryd.prog 66 #[.int .i64 f] w fun e w' => e = .returned (.string told) ∧ w' = w
  ok : ∀ l ∈ told.data.toList, letterOK l
  few : told.size ≤ 3
  text : ∀ n rd r1 r2 im, Lib.join (n :: fieldsL told.data.toList rd r1 r2 im) [32] = textL f n rd r1 r2 im

theorem told_all (f : Int) (h0 : 1 ≤ f) (h1 : f ≤ 9) : ∃ told, Told f told := by
  rcases (show f = 1 ∨ f = 2 ∨ f = 3 ∨ f = 4 ∨ f = 5 ∨ f = 6 ∨ f = 7 ∨ f = 8 ∨ f = 9 by omega) with rfl | rfl | rfl | rfl | rfl | rfl | rfl | rfl | rfl
  · exact ⟨_, told1, by simp [letterOK], by decide, by intros; simp [Lib.join_cons, Lib.joinTail, fieldsL, wordF, valL, textL, regT, immT]⟩
  · exact ⟨_, told2, by simp [letterOK], by decide, by intros; simp [Lib.join_cons, Lib.joinTail, fieldsL, wordF, valL, textL, regT, immT]⟩
  · exact ⟨_, told3, by simp [letterOK], by decide, by intros; simp [Lib.join_cons, Lib.joinTail, fieldsL, wordF, valL, textL, regT, immT]⟩
  · exact ⟨_, told4, by simp [letterOK], by decide, by intros; simp [Lib.join_cons, Lib.joinTail, fieldsL, wordF, valL, textL, regT, immT]⟩
  · exact ⟨_, told5, by simp [letterOK], by decide, by intros; simp [Lib.join_cons, Lib.joinTail, fieldsL, wordF, valL, textL, regT, immT]⟩
  · exact ⟨_, told6, by simp [letterOK], by decide, by intros; simp [Lib.join_cons, Lib.joinTail, fieldsL, wordF, valL, textL, regT, immT]⟩
  · exact ⟨_, told7, by simp [letterOK], by decide, by intros; simp [Lib.join_cons, Lib.joinTail, fieldsL, wordF, valL, textL, regT, immT]⟩
  · exact ⟨_, told8, by simp [letterOK], by decide, by intros; simp [Lib.join_cons, Lib.joinTail, fieldsL, wordF, valL, textL, regT]⟩
  · exact ⟨_, told9, by simp [letterOK], by decide, by intros; simp [Lib.join_cons, Lib.joinTail, fieldsL, textL]⟩

theorem textL_len (f : Int) (n : List UInt8) (rd r1 r2 im : Int) (hn : n.length ≤ 100) (h1 : In64 rd) (h2 : In64 r1) (h3 : In64 r2) (h4 : In64 im) : (textL f n rd r1 r2 im).length ≤ 200 := by
  have L1 := regT_len rd h1
  have L2 := regT_len r1 h2
  have L3 := regT_len r2 h3
  have L4 := immT_len im h4
  unfold textL
  repeat' split
  all_goals simp <;> omega
end Go.Proofs.YtjpdjalhhokghaaDoor.Tx
