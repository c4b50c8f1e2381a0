
/- Heads and keys as values and in memory. -/
import Derived.Test.YtedolfggbgmklaaRets
namespace Go.Proofs.Ytedolfggbgmklaa
open Go.RowKit
set_option linter.unusedVariables false
set_option maxRecDepth 100000

/-- A head's numbers. -/
structure HV where
  age : Int
  opts : Int
  typ : Int
  id : Int
  adv : Int
  seq : Int
  sum : Int
  len : Int
def HV.v (h : HV) : Value := .agg #[.int .u16 h.age, .int .u8 h.opts, .int .u8 h.typ, .int .u32 h.id, .int .u32 h.adv, .int .i32 h.seq, .int .u16 h.sum, .int .u16 h.len]
/-- Its age and number fit their kinds. -/
structure HV.Ok (h : HV) : Prop where
  a0 : 0 ≤ h.age
  a1 : h.age < 65536
  s0 : -2147483648 ≤ h.seq
  s1 : h.seq ≤ 2147483647
/-- Its sum fits. -/
def HV.OkS (h : HV) : Prop := 0 ≤ h.sum ∧ h.sum < 65536
/-- A key's numbers. -/
structure KV where
  typ : Int
  id : Int
  adv : Int
def KV.v (h : KV) : Value := .agg #[.int .u8 h.typ, .int .u32 h.id, .int .u32 h.adv]
structure KV.Ok (h : KV) : Prop where
  t : 0 ≤ h.typ ∧ h.typ < 256
  i : 0 ≤ h.id ∧ h.id < 4294967296
  a : 0 ≤ h.adv ∧ h.adv < 4294967296
structure Ky (w : World) (g : Nat) (h : KV) : Prop where
  c0 : w.cell? ⟨g, 0, none⟩ = some (.int .u8 h.typ)
  c1 : w.cell? ⟨g, 1, none⟩ = some (.int .u32 h.id)
  c2 : w.cell? ⟨g, 2, none⟩ = some (.int .u32 h.adv)
theorem Ky.keep {w w' : World} {g : Nat} {h : KV} (k : Ky w g h) (t : Touch (fun _ => False) w w') : Ky w' g h := ⟨t.cellN k.c0, t.cellN k.c1, t.cellN k.c2⟩
theorem Ky.new (w : World) (h : KV) (t : TypeId) : Ky (w.alloc (.cells #[.int .u8 h.typ, .int .u32 h.id, .int .u32 h.adv] t)) w.heap.size h :=
  ⟨by simp [go_sem], by simp [go_sem], by simp [go_sem]⟩
/-- It lies in block g. -/
structure Hd (w : World) (g : Nat) (h : HV) : Prop where
  c0 : w.cell? ⟨g, 0, none⟩ = some (.int .u16 h.age)
  c1 : w.cell? ⟨g, 1, none⟩ = some (.int .u8 h.opts)
  c2 : w.cell? ⟨g, 2, none⟩ = some (.int .u8 h.typ)
  c3 : w.cell? ⟨g, 3, none⟩ = some (.int .u32 h.id)
  c4 : w.cell? ⟨g, 4, none⟩ = some (.int .u32 h.adv)
  c5 : w.cell? ⟨g, 5, none⟩ = some (.int .i32 h.seq)
  c6 : w.cell? ⟨g, 6, none⟩ = some (.int .u16 h.sum)
  c7 : w.cell? ⟨g, 7, none⟩ = some (.int .u16 h.len)
theorem Hd.keep {w w' : World} {g : Nat} {h : HV} (k : Hd w g h) (t : Touch (fun _ => False) w w') : Hd w' g h :=
  ⟨t.cellN k.c0, t.cellN k.c1, t.cellN k.c2, t.cellN k.c3, t.cellN k.c4, t.cellN k.c5, t.cellN k.c6, t.cellN k.c7⟩
theorem Hd.new (w : World) (h : HV) (t : TypeId) :
    Hd (w.alloc (.cells #[.int .u16 h.age, .int .u8 h.opts, .int .u8 h.typ, .int .u32 h.id, .int .u32 h.adv, .int .i32 h.seq, .int .u16 h.sum, .int .u16 h.len] t)) w.heap.size h :=
  ⟨by simp [go_sem], by simp [go_sem], by simp [go_sem], by simp [go_sem], by simp [go_sem], by simp [go_sem], by simp [go_sem], by simp [go_sem]⟩
end Go.Proofs.Ytedolfggbgmklaa
