/- Heads and keys as values and in memory; newer of two such; some heads (lives). -/
import Derived.Test.YtfflkconbpiflaaOrdKeys
import Derived.Test.YtfflkconbpiflaaTAft
namespace Go.Proofs.Ytfflkconbpiflaa
open Go.RowKit
set_option linter.unusedVariables false
set_option maxRecDepth 100000

/-- A head's numbers. -/
structure HV where
  age : Int
  opts : Int
  typ : Int
  id : Int
  adv : Int
  seq : Int
  sum : Int
  len : Int
def HV.v (h : HV) : Value := .agg #[.int .u16 h.age, .int .u8 h.opts, .int .u8 h.typ, .int .u32 h.id, .int .u32 h.adv, .int .i32 h.seq, .int .u16 h.sum, .int .u16 h.len]
/-- Its age and number fit their kinds. -/
structure HV.Ok (h : HV) : Prop where
  a0 : 0 ≤ h.age
  a1 : h.age < 65536
  s0 : -2147483648 ≤ h.seq
  s1 : h.seq ≤ 2147483647
/-- Its sum fits. -/
def HV.OkS (h : HV) : Prop := 0 ≤ h.sum ∧ h.sum < 65536
/-- A key's numbers. -/
structure KV where
  typ : Int
  id : Int
  adv : Int
def KV.v (h : KV) : Value := .agg #[.int .u8 h.typ, .int .u32 h.id, .int .u32 h.adv]
structure KV.Ok (h : KV) : Prop where
  t : 0 ≤ h.typ ∧ h.typ < 256
  i : 0 ≤ h.id ∧ h.id < 4294967296
  a : 0 ≤ h.adv ∧ h.adv < 4294967296
structure Ky (w : World) (g : Nat) (h : KV) : Prop where
  c0 : w.cell? ⟨g, 0, none⟩ = some (.int .u8 h.typ)
  c1 : w.cell? ⟨g, 1, none⟩ = some (.int .u32 h.id)
  c2 : w.cell? ⟨g, 2, none⟩ = some (.int .u32 h.adv)
theorem Ky.keep {w w' : World} {g : Nat} {h : KV} (k : Ky w g h) (t : Touch (fun _ => False) w w') : Ky w' g h := ⟨t.cellN k.c0, t.cellN k.c1, t.cellN k.c2⟩
theorem Ky.new (w : World) (h : KV) (t : TypeId) : Ky (w.alloc (.cells #[.int .u8 h.typ, .int .u32 h.id, .int .u32 h.adv] t)) w.heap.size h :=
  ⟨by simp [go_sem], by simp [go_sem], by simp [go_sem]⟩
def HV.new (a b : HV) : Int := newI a.seq a.sum a.age b.seq b.sum b.age
/-- It lies in block g. -/
structure Hd (w : World) (g : Nat) (h : HV) : Prop where
  c0 : w.cell? ⟨g, 0, none⟩ = some (.int .u16 h.age)
  c1 : w.cell? ⟨g, 1, none⟩ = some (.int .u8 h.opts)
  c2 : w.cell? ⟨g, 2, none⟩ = some (.int .u8 h.typ)
  c3 : w.cell? ⟨g, 3, none⟩ = some (.int .u32 h.id)
  c4 : w.cell? ⟨g, 4, none⟩ = some (.int .u32 h.adv)
  c5 : w.cell? ⟨g, 5, none⟩ = some (.int .i32 h.seq)
  c6 : w.cell? ⟨g, 6, none⟩ = some (.int .u16 h.sum)
  c7 : w.cell? ⟨g, 7, none⟩ = some (.int .u16 h.len)
theorem Hd.keep {w w' : World} {g : Nat} {h : HV} (k : Hd w g h) (t : Touch (fun _ => False) w w') : Hd w' g h :=
  ⟨t.cellN k.c0, t.cellN k.c1, t.cellN k.c2, t.cellN k.c3, t.cellN k.c4, t.cellN k.c5, t.cellN k.c6, t.cellN k.c7⟩
theorem Hd.new (w : World) (h : HV) (t : TypeId) :
    Hd (w.alloc (.cells #[.int .u16 h.age, .int .u8 h.opts, .int .u8 h.typ, .int .u32 h.id, .int .u32 h.adv, .int .i32 h.seq, .int .u16 h.sum, .int .u16 h.len] t)) w.heap.size h :=
  ⟨by simp [go_sem], by simp [go_sem], by simp [go_sem], by simp [go_sem], by simp [go_sem], by simp [go_sem], by simp [go_sem], by simp [go_sem]⟩
theorem newer_hv (a b : HV) (ha : a.Ok) (hb : b.Ok) (x : Int) (hx : a.new b = x) (w : World) :
    Calls Try.prog 13 #[a.v, b.v] w fun e w' => e = .returned (.int .i64 x) ∧ Touch (fun _ => False) w w' := by
  rw [← hx]
  exact newer_any a.age a.opts a.typ a.id a.adv a.seq a.sum a.len b.age b.opts b.typ b.id b.adv b.seq b.sum b.len ha.a0 ha.a1 hb.a0 hb.a1 w
theorem seq_hv (x y : Int) (z : Int) (hz : cmpI x y = z) (w : World) : Calls Try.prog 7 #[.int .i32 x, .int .i32 y] w fun e w' => e = .returned (.int .i64 z) ∧ Touch (fun _ => False) w w' := by
  rw [← hz]
  exact (seq_any x y w).mono fun e w' ⟨he, hw⟩ => ⟨he, hw ▸ Touch.refl _ w⟩
theorem old_hv (a : Int) (h0 : 0 ≤ a) (h : a < 65536) (b : Bool) (hb : decide (yrs a = 3600) = b) (w : World) :
    Calls Try.prog 11 #[.int .u16 a] w fun e w' => e = .returned (.bool b) ∧ Touch (fun _ => False) w w' := by
  rw [← hb]
  exact (old_any a h0 h w).mono fun e w' ⟨he, hw⟩ => ⟨he, hw ▸ Touch.refl _ w⟩
theorem age_hv (a p : Int) (h0 : 0 ≤ a) (h : a < 65536) (z : Int) (hz : ageI a p = z) (w : World) :
    Calls Try.prog 9 #[.int .u16 a, .int .i64 p] w fun e w' => e = .returned (.int .u16 z) ∧ Touch (fun _ => False) w w' := by
  rw [← hz]
  exact (age_any a p h0 h w).mono fun e w' ⟨he, hw⟩ => ⟨he, hw ▸ Touch.refl _ w⟩

set_option maxHeartbeats 1000000 in
theorem lives_any (w : World) : Calls Try.prog 17 #[] w fun e w' => e = .returned (.bool true) ∧ Touch (fun _ => False) w w' := by
  go_enter Try.func17, Try.ntmps17
  go_wp2_with fail
  refine (next_more (-1) (by omega) (by omega) _).mono ?_
  rintro e w1 ⟨rfl, rfl⟩
  go_wp2_with fail
  refine (newer_hv ⟨0, 0, 0, 0, 0, 5, 0, 0⟩ ⟨0, 0, 0, 0, 0, 4, 0, 0⟩ ⟨by decide, by decide, by decide, by decide⟩ ⟨by decide, by decide, by decide, by decide⟩ 1 (by decide) _).mono ?_
  rintro e w2 ⟨rfl, t2⟩
  go_wp2_with fail
  refine (newer_hv ⟨0, 0, 0, 0, 0, 0, 0, 0⟩ ⟨3600, 0, 0, 0, 0, 0, 0, 0⟩ ⟨by decide, by decide, by decide, by decide⟩ ⟨by decide, by decide, by decide, by decide⟩ (-1) (by decide) _).mono ?_
  rintro e w3 ⟨rfl, t3⟩
  go_wp2_with fail
  refine (age_hv 3599 9 (by omega) (by omega) 3600 (by decide) _).mono ?_
  rintro e w4 ⟨rfl, t4⟩
  go_wp2_with fail
  refine (old_hv 36368 (by omega) (by omega) true (by decide) _).mono ?_
  rintro e w5 ⟨rfl, t5⟩
  go_wp2_with fail
  refine (keys_any 1 0 0 0 1 0 _).mono ?_
  rw [show keyI 1 0 0 0 1 0 = 1 by decide]
  rintro e w6 ⟨rfl, t6⟩
  go_wp2_with fail
  go_ret
  exact ⟨rfl, t2.trans (t3.trans (t4.trans (t5.trans t6)))⟩
end Go.Proofs.Ytfflkconbpiflaa
