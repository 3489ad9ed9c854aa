import Derived.Test.YtljodhcfimklkabQ1
import Derived.Test.YtljodhcfimklkabM6
namespace Go.Proofs.Ytljodhcfimklkab
open Go.RowKit

/-- The cells of an instruction in the program's row; what the slice value v reads as. -/
def Ins.cells (x : Ins) : List Value := [.int .u8 x.op, .int .i64 x.r, .int .i64 x.b, .int .i64 x.k, .int .i64 x.n]
def InsAt (w : World) (v : Value) (L : List Ins) : Prop := w.ownsRow 0 78 5 v L.length (L.flatMap Ins.cells)

/-- The program's machine, in its block. -/
def mcells (s : St) : List Value := [.int .i64 (s.reg 0), .int .i64 (s.reg 1), .int .i64 (s.reg 2), .int .i64 (s.reg 3), .int .i64 (s.reg 4), .int .i64 (s.reg 5), .int .i64 (s.reg 6), .int .i64 (s.reg 7),
  .bool (s.mark 0), .bool (s.mark 1), .bool (s.mark 2), .bool (s.mark 3), .bool (s.mark 4), .bool (s.mark 5), .bool (s.mark 6), .bool (s.mark 7), .int .u64 s.N]
def MachAt (w : World) (g : Nat) (s : St) : Prop := w.ownsRow g 49 17 (.slice (some ⟨g, 0, none⟩) 1 1) 1 (mcells s)

theorem eight {r : Nat} (h : r < 8) : r = 0 ∨ r = 1 ∨ r = 2 ∨ r = 3 ∨ r = 4 ∨ r = 5 ∨ r = 6 ∨ r = 7 := by omega
theorem MachAt.reg {w : World} {g : Nat} {s : St} (h : MachAt w g s) {r : Nat} (hr : r < 8) : w.cell? ⟨g, r, none⟩ = some (.int .i64 (s.reg r)) := by
  rw [World.ownsRow.cellAt h r (by omega)]
  rcases eight hr with rfl | rfl | rfl | rfl | rfl | rfl | rfl | rfl <;> rfl
theorem MachAt.mark {w : World} {g : Nat} {s : St} (h : MachAt w g s) {r : Nat} (hr : r < 8) : w.cell? ⟨g, 8 + r, none⟩ = some (.bool (s.mark r)) := by
  rw [World.ownsRow.cellAt h (8 + r) (by omega)]
  rcases eight hr with rfl | rfl | rfl | rfl | rfl | rfl | rfl | rfl <;> rfl
theorem MachAt.bits {w : World} {g : Nat} {s : St} (h : MachAt w g s) : w.cell? ⟨g, 16, none⟩ = some (.int .u64 s.N) := by
  rw [World.ownsRow.cellAt h 16 (by omega)]; rfl
theorem MachAt.free {w : World} {g : Nat} {s : St} (h : MachAt w g s) (j : Nat) : w.frozen? ⟨g, j, none⟩ = false := World.ownsRow.frozenAt h j
theorem MachAt.setReg {w : World} {g : Nat} {s : St} (h : MachAt w g s) {r : Nat} (hr : r < 8) (v : Int) : MachAt (w.setCell ⟨g, r, none⟩ (.int .i64 v)) g { s with reg := upd s.reg r v } := by
  have := (World.ownsRow.stored h r (.int .i64 v)).1
  unfold MachAt
  rcases eight hr with rfl | rfl | rfl | rfl | rfl | rfl | rfl | rfl <;> exact this
theorem MachAt.setMark {w : World} {g : Nat} {s : St} (h : MachAt w g s) {r : Nat} (hr : r < 8) : MachAt (w.setCell ⟨g, 8 + r, none⟩ (.bool true)) g { s with mark := upd s.mark r true } := by
  have := (World.ownsRow.stored h (8 + r) (.bool true)).1
  unfold MachAt
  rcases eight hr with rfl | rfl | rfl | rfl | rfl | rfl | rfl | rfl <;> exact this
theorem MachAt.setBits {w : World} {g : Nat} {s : St} (h : MachAt w g s) (M : Nat) : MachAt (w.setCell ⟨g, 16, none⟩ (.int .u64 M)) g { s with N := M } := by
  have := (World.ownsRow.stored h 16 (.int .u64 M)).1
  exact this
theorem MachAt.bel {w w' : World} {g : Nat} {s : St} (h : MachAt w g s) (hb : Below w.heap.size w w') : MachAt w' g s := ownsRow_bel h hb
theorem MachAt.lt {w : World} {g : Nat} {s : St} (h : MachAt w g s) : g < w.heap.size := (World.ownsRow.lt h g rfl).2

end Go.Proofs.Ytljodhcfimklkab
