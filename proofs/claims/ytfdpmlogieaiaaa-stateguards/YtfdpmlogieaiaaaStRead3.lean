/- A state is made of a body that was copied, wherever its own block is made. -/
import Derived.Test.YtfdpmlogieaiaaaStCopyB
import Derived.Test.YtfdpmlogieaiaaaStEncAny
import Derived.Test.YtfdpmlogieaiaaaStBody
namespace Go.Proofs.Ytfdpmlogieaiaaa
open Go.RowKit
set_option linter.unusedVariables false
set_option maxRecDepth 100000

structure RnA (w0 wx : World) : Prop where
  t : Touch (fun _ => False) w0 wx
structure RnB (w0 : World) (gs : Nat) (wx : World) : Prop where
  t : Touch (fun _ => False) w0 wx
  rm : Room wx gs 9
  ge : w0.heap.size ≤ gs
theorem RnA.two {w0 wx : World} (h : RnA w0 wx) : RnB w0 wx.heap.size (wx.alloc (.cells #[.int .u16 0, .int .u8 0, .int .u8 0, .int .u32 0, .int .u32 0, .int .i32 0, .int .u16 0, .int .u16 0, .slice none 0 0] 34)) := ⟨h.t.alloc _, Room.new wx _ _, h.t.size⟩
theorem RnA.drew {w0 wx : World} (h : RnA w0 wx) : RnA w0 wx.drew := ⟨h.t.drew⟩
theorem RnB.drew {w0 wx : World} {gs : Nat} (h : RnB w0 gs wx) : RnB w0 gs wx.drew := ⟨h.t.drew, h.rm.keep ((Touch.refl _ _).drew), h.ge⟩
structure RnA2 (w0 wx : World) (B : BV) (vl vr vd : Value) : Prop where
  t : Touch (fun _ => False) w0 wx
  b : BArg wx B vl vr vd
structure RnB2 (w0 : World) (gs : Nat) (wx : World) (B : BV) (vl vr vd : Value) : Prop where
  t : Touch (fun _ => False) w0 wx
  rm : Room wx gs 9
  ge : w0.heap.size ≤ gs
  b : BArg wx B vl vr vd
theorem RnA2.two {w0 wx : World} {B : BV} {vl vr vd : Value} (h : RnA2 w0 wx B vl vr vd) : RnB2 w0 wx.heap.size (wx.alloc (.cells #[.int .u16 0, .int .u8 0, .int .u8 0, .int .u32 0, .int .u32 0, .int .i32 0, .int .u16 0, .int .u16 0, .slice none 0 0] 34)) B vl vr vd := ⟨h.t.alloc _, Room.new wx _ _, h.t.size, h.b.keep ((Touch.refl _ _).alloc _)⟩
theorem rnA_copy {w0 wx : World} {B : BV} {a1 a3 a8 : Option Addr} {q1 q3 q8 : Nat} (lt : Light B) (hA : BArg w0 B (.slice a1 B.links.length q1) (.slice a3 B.routers.length q3) (.slice a8 B.data.length q8)) (h : RnA w0 wx) : Calls Try.prog 8 #[B.v (.slice a1 B.links.length q1) (.slice a3 B.routers.length q3) (.slice a8 B.data.length q8)] wx fun e w' => ∃ (b1 : Option Addr) (p1 : Nat) (b3 : Option Addr) (p3 : Nat) (b8 : Option Addr) (p8 : Nat), e = .returned (B.v (.slice b1 B.links.length p1) (.slice b3 B.routers.length p3) (.slice b8 B.data.length p8)) ∧ RnA2 w0 w' B (.slice b1 B.links.length p1) (.slice b3 B.routers.length p3) (.slice b8 B.data.length p8) := by
  refine (cbody_any B lt a1 a3 a8 q1 q3 q8 wx (hA.keep h.t)).mono ?_
  rintro e w' ⟨vl, vr, vd, rfl, o, t⟩
  obtain ⟨b1, p1, b3, p3, b8, p8, rfl, rfl, rfl⟩ := o.form
  exact ⟨b1, p1, b3, p3, b8, p8, rfl, h.t.trans t, o.arg⟩
theorem rnB_copy {w0 wx : World} {gs : Nat} {B : BV} {a1 a3 a8 : Option Addr} {q1 q3 q8 : Nat} (lt : Light B) (hA : BArg w0 B (.slice a1 B.links.length q1) (.slice a3 B.routers.length q3) (.slice a8 B.data.length q8)) (h : RnB w0 gs wx) : Calls Try.prog 8 #[B.v (.slice a1 B.links.length q1) (.slice a3 B.routers.length q3) (.slice a8 B.data.length q8)] wx fun e w' => ∃ (b1 : Option Addr) (p1 : Nat) (b3 : Option Addr) (p3 : Nat) (b8 : Option Addr) (p8 : Nat), e = .returned (B.v (.slice b1 B.links.length p1) (.slice b3 B.routers.length p3) (.slice b8 B.data.length p8)) ∧ RnB2 w0 gs w' B (.slice b1 B.links.length p1) (.slice b3 B.routers.length p3) (.slice b8 B.data.length p8) := by
  refine (cbody_any B lt a1 a3 a8 q1 q3 q8 wx (hA.keep h.t)).mono ?_
  rintro e w' ⟨vl, vr, vd, rfl, o, t⟩
  obtain ⟨b1, p1, b3, p3, b8, p8, rfl, rfl, rfl⟩ := o.form
  exact ⟨b1, p1, b3, p3, b8, p8, rfl, h.t.trans t, h.rm.keep t, h.ge, o.arg⟩
structure RnA3 (w0 wx : World) (l : List Int) (u : Value) : Prop where
  t : Touch (fun _ => False) w0 wx
  a : ArgAt wx u l
structure RnB3 (w0 : World) (gs : Nat) (wx : World) (l : List Int) (u : Value) : Prop where
  t : Touch (fun _ => False) w0 wx
  rm : Room wx gs 9
  ge : w0.heap.size ≤ gs
  o : wx.ownsRow (gs + 1) 5 1 u l.length (bytesOf l)
theorem RnA3.two {w0 wx : World} {l : List Int} {u : Value} (h : RnA3 w0 wx l u) : Touch (fun _ => False) w0 (wx.alloc (.cells #[.int .u16 0, .int .u8 0, .int .u8 0, .int .u32 0, .int .u32 0, .int .i32 0, .int .u16 0, .int .u16 0, .slice none 0 0] 34)) := h.t.alloc _
theorem rnA_enc {w0 wx : World} {h : HV} {B : BV} {b1 b3 b8 : Option Addr} {p1 p3 p8 : Nat} (ok : h.All) (okb : B.Ok) (lt : Light B) (he : EncOk h.typ B) (k : RnA2 w0 wx B (.slice b1 B.links.length p1) (.slice b3 B.routers.length p3) (.slice b8 B.data.length p8)) :
    Calls Try.prog 7 #[h.v, B.v (.slice b1 B.links.length p1) (.slice b3 B.routers.length p3) (.slice b8 B.data.length p8)] wx fun e w' => ∃ ua uc, e = .returned (.tuple #[(sealH h (layB h.typ B)).sv (.slice ua (layB h.typ B).length uc), .int .i64 0]) ∧ RnA3 w0 w' (layB h.typ B) (.slice ua (layB h.typ B).length uc) := by
  refine (encode_good h ok B okb lt b1 b3 b8 p1 p3 p8 wx k.b he).mono ?_
  rintro e w' ⟨u, rfl, b⟩
  obtain ⟨ua, uc, rfl⟩ := b.form
  exact ⟨ua, uc, rfl, k.t.trans b.t, b.arg⟩
theorem rnB_enc {w0 wx : World} {gs : Nat} {h : HV} {B : BV} {b1 b3 b8 : Option Addr} {p1 p3 p8 : Nat} (ok : h.All) (okb : B.Ok) (lt : Light B) (he : EncOk h.typ B) (k : RnB2 w0 gs wx B (.slice b1 B.links.length p1) (.slice b3 B.routers.length p3) (.slice b8 B.data.length p8)) :
    Calls Try.prog 7 #[h.v, B.v (.slice b1 B.links.length p1) (.slice b3 B.routers.length p3) (.slice b8 B.data.length p8)] wx fun e w' => ∃ ua uc, e = .returned (.tuple #[(sealH h (layB h.typ B)).sv (.slice ua (layB h.typ B).length uc), .int .i64 0]) ∧ RnB3 w0 gs w' (layB h.typ B) (.slice ua (layB h.typ B).length uc) := by
  refine (encode_good h ok B okb lt b1 b3 b8 p1 p3 p8 wx k.b he).mono ?_
  rintro e w' ⟨u, rfl, b⟩
  obtain ⟨ua, uc, rfl⟩ := b.form
  have hl : gs < wx.heap.size := by obtain ⟨_, hc, _⟩ := k.rm 0 (by omega); exact lt_of_cell hc
  exact ⟨ua, uc, rfl, k.t.trans b.t, k.rm.keep b.t, k.ge, own_lower b.own (by omega)⟩
theorem rnA_encN {w0 wx : World} {h : HV} {B : BV} {b1 b3 b8 : Option Addr} {p1 p3 p8 : Nat} (ok : h.All) (okb : B.Ok) (lt : Light B) (he : encE h.typ B ≠ 0) (k : RnA2 w0 wx B (.slice b1 B.links.length p1) (.slice b3 B.routers.length p3) (.slice b8 B.data.length p8)) :
    Calls Try.prog 7 #[h.v, B.v (.slice b1 B.links.length p1) (.slice b3 B.routers.length p3) (.slice b8 B.data.length p8)] wx fun e w' => e = .returned (.tuple #[.agg #[.int .u16 0, .int .u8 0, .int .u8 0, .int .u32 0, .int .u32 0, .int .i32 0, .int .u16 0, .int .u16 0, .slice none 0 0], .int .i64 (encE h.typ B)]) ∧ RnA w0 w' := by
  refine (encode_bad h ok B okb lt b1 b3 b8 p1 p3 p8 wx k.b he).mono ?_
  rintro e w' ⟨rfl, t⟩
  exact ⟨rfl, ⟨k.t.trans t⟩⟩
theorem rnB_encN {w0 wx : World} {gs : Nat} {h : HV} {B : BV} {b1 b3 b8 : Option Addr} {p1 p3 p8 : Nat} (ok : h.All) (okb : B.Ok) (lt : Light B) (he : encE h.typ B ≠ 0) (k : RnB2 w0 gs wx B (.slice b1 B.links.length p1) (.slice b3 B.routers.length p3) (.slice b8 B.data.length p8)) :
    Calls Try.prog 7 #[h.v, B.v (.slice b1 B.links.length p1) (.slice b3 B.routers.length p3) (.slice b8 B.data.length p8)] wx fun e w' => e = .returned (.tuple #[.agg #[.int .u16 0, .int .u8 0, .int .u8 0, .int .u32 0, .int .u32 0, .int .i32 0, .int .u16 0, .int .u16 0, .slice none 0 0], .int .i64 (encE h.typ B)]) ∧ RnB w0 gs w' := by
  refine (encode_bad h ok B okb lt b1 b3 b8 p1 p3 p8 wx k.b he).mono ?_
  rintro e w' ⟨rfl, t⟩
  exact ⟨rfl, k.t.trans t, k.rm.keep t, k.ge⟩
theorem room_chain {w : World} {gs : Nat} (rm : Room w gs 9) (S : HV) (u : Value) : Sd ((((((((((w.setCell ⟨gs, 0, none⟩ (.int .u16 S.age)).setCell ⟨gs, 1, none⟩ (.int .u8 S.opts)).setCell ⟨gs, 2, none⟩ (.int .u8 S.typ)).setCell ⟨gs, 3, none⟩ (.int .u32 S.id)).setCell ⟨gs, 4, none⟩ (.int .u32 S.adv)).setCell ⟨gs, 5, none⟩ (.int .i32 S.seq)).setCell ⟨gs, 6, none⟩ (.int .u16 S.sum)).setCell ⟨gs, 7, none⟩ (.int .u16 S.len)).setCell ⟨gs, 8, none⟩ (u))) gs S u ∧ Touch (fun k => k = gs) w ((((((((((w.setCell ⟨gs, 0, none⟩ (.int .u16 S.age)).setCell ⟨gs, 1, none⟩ (.int .u8 S.opts)).setCell ⟨gs, 2, none⟩ (.int .u8 S.typ)).setCell ⟨gs, 3, none⟩ (.int .u32 S.id)).setCell ⟨gs, 4, none⟩ (.int .u32 S.adv)).setCell ⟨gs, 5, none⟩ (.int .i32 S.seq)).setCell ⟨gs, 6, none⟩ (.int .u16 S.sum)).setCell ⟨gs, 7, none⟩ (.int .u16 S.len)).setCell ⟨gs, 8, none⟩ (u))) := by
  obtain ⟨zz0, zc0, zf0⟩ := rm 0 (by omega)
  obtain ⟨zz1, zc1, zf1⟩ := rm 1 (by omega)
  obtain ⟨zz2, zc2, zf2⟩ := rm 2 (by omega)
  obtain ⟨zz3, zc3, zf3⟩ := rm 3 (by omega)
  obtain ⟨zz4, zc4, zf4⟩ := rm 4 (by omega)
  obtain ⟨zz5, zc5, zf5⟩ := rm 5 (by omega)
  obtain ⟨zz6, zc6, zf6⟩ := rm 6 (by omega)
  obtain ⟨zz7, zc7, zf7⟩ := rm 7 (by omega)
  obtain ⟨zz8, zc8, zf8⟩ := rm 8 (by omega)
  refine ⟨⟨⟨by simp [zc0, go_sem], by simp [zc1, go_sem], by simp [zc2, go_sem], by simp [zc3, go_sem], by simp [zc4, go_sem], by simp [zc5, go_sem], by simp [zc6, go_sem], by simp [zc7, go_sem]⟩, by simp [zc8, go_sem]⟩, ?_⟩
  refine Touch.setCell (F := fun k => k = gs) (p := ⟨gs, 8, none⟩) ?_ (Or.inl rfl) _
  refine Touch.setCell (F := fun k => k = gs) (p := ⟨gs, 7, none⟩) ?_ (Or.inl rfl) _
  refine Touch.setCell (F := fun k => k = gs) (p := ⟨gs, 6, none⟩) ?_ (Or.inl rfl) _
  refine Touch.setCell (F := fun k => k = gs) (p := ⟨gs, 5, none⟩) ?_ (Or.inl rfl) _
  refine Touch.setCell (F := fun k => k = gs) (p := ⟨gs, 4, none⟩) ?_ (Or.inl rfl) _
  refine Touch.setCell (F := fun k => k = gs) (p := ⟨gs, 3, none⟩) ?_ (Or.inl rfl) _
  refine Touch.setCell (F := fun k => k = gs) (p := ⟨gs, 2, none⟩) ?_ (Or.inl rfl) _
  refine Touch.setCell (F := fun k => k = gs) (p := ⟨gs, 1, none⟩) ?_ (Or.inl rfl) _
  refine Touch.setCell (F := fun k => k = gs) (p := ⟨gs, 0, none⟩) ?_ (Or.inl rfl) _
  exact Touch.refl _ _
/-- The state lies in its block; its bytes read so. -/
structure RnS (w0 : World) (gs : Nat) (wx : World) (S : HV) (l : List Int) (u : Value) : Prop where
  t : Touch (fun _ => False) w0 wx
  s : Sd wx gs S u
  a : ArgAt wx u l
theorem rn_chain {w0 wx : World} {gs : Nat} {l : List Int} {u : Value} (S : HV) (h : RnB3 w0 gs wx l u) : RnS w0 gs ((((((((((wx.setCell ⟨gs, 0, none⟩ (.int .u16 S.age)).setCell ⟨gs, 1, none⟩ (.int .u8 S.opts)).setCell ⟨gs, 2, none⟩ (.int .u8 S.typ)).setCell ⟨gs, 3, none⟩ (.int .u32 S.id)).setCell ⟨gs, 4, none⟩ (.int .u32 S.adv)).setCell ⟨gs, 5, none⟩ (.int .i32 S.seq)).setCell ⟨gs, 6, none⟩ (.int .u16 S.sum)).setCell ⟨gs, 7, none⟩ (.int .u16 S.len)).setCell ⟨gs, 8, none⟩ (u))) S l u := by
  obtain ⟨hs, t⟩ := room_chain h.rm S u
  have ge := h.ge
  exact ⟨h.t.trans' t (fun i hi e => by omega), hs, (own_rowAt (own_touch h.o t (fun k hk e => by have := (h.o.lt k hk).1; omega))).arg⟩
theorem rn_alloc {w0 wx : World} {l : List Int} {u : Value} (S : HV) (h : RnA3 w0 wx l u) : RnS w0 wx.heap.size (wx.alloc (.cells #[.int .u16 S.age, .int .u8 S.opts, .int .u8 S.typ, .int .u32 S.id, .int .u32 S.adv, .int .i32 S.seq, .int .u16 S.sum, .int .u16 S.len, u] 34)) S l u :=
  ⟨h.t.alloc _, Sd.new wx S u _, h.a.keepN ((Touch.refl _ _).alloc _)⟩
theorem rn_chain0 {w0 wx : World} {gs : Nat} (h : RnB w0 gs wx) : RnS w0 gs ((((((((((wx.setCell ⟨gs, 0, none⟩ (.int .u16 0)).setCell ⟨gs, 1, none⟩ (.int .u8 0)).setCell ⟨gs, 2, none⟩ (.int .u8 0)).setCell ⟨gs, 3, none⟩ (.int .u32 0)).setCell ⟨gs, 4, none⟩ (.int .u32 0)).setCell ⟨gs, 5, none⟩ (.int .i32 0)).setCell ⟨gs, 6, none⟩ (.int .u16 0)).setCell ⟨gs, 7, none⟩ (.int .u16 0)).setCell ⟨gs, 8, none⟩ (.slice none 0 0))) HV.zero [] (.slice none 0 0) := by
  obtain ⟨hs, t⟩ := room_chain h.rm HV.zero (.slice none 0 0)
  have ge := h.ge
  exact ⟨h.t.trans' t (fun i hi e => by omega), hs, Or.inl ⟨rfl, rfl⟩⟩
theorem rn_alloc0 {w0 wx : World} (h : RnA w0 wx) : RnS w0 wx.heap.size (wx.alloc (.cells #[.int .u16 0, .int .u8 0, .int .u8 0, .int .u32 0, .int .u32 0, .int .i32 0, .int .u16 0, .int .u16 0, .slice none 0 0] 34)) HV.zero [] (.slice none 0 0) :=
  ⟨h.t.alloc _, Sd.new wx HV.zero (.slice none 0 0) _, Or.inl ⟨rfl, rfl⟩⟩
end Go.Proofs.Ytfdpmlogieaiaaa

namespace Go.Proofs.Ytfdpmlogieaiaaa
open Go.RowKit
set_option linter.unusedVariables false
set_option maxRecDepth 100000

set_option maxHeartbeats 1000000 in
theorem read_no (v : Value) (rs : List Int) (err : Int) (w : World) (hv : ArgAt w v rs)
    (HC1 : ∀ w', Touch (fun _ => False) w w' → w'.cell? ⟨w.heap.size, 0, none⟩ = some v → Calls Try.prog 36 #[.pointer (some ⟨w.heap.size, 0, none⟩)] w' fun e w'' => e = .panicked (flawC err) ∧ Touch (fun _ => False) w' w'') :
    Calls Try.prog 15 #[v] w fun e w' => e = .returned (.tuple #[.agg #[.int .u16 0, .int .u8 0, .int .u8 0, .int .u32 0, .int .u32 0, .int .i32 0, .int .u16 0, .int .u16 0, .slice none 0 0], .int .i64 0, .int .i64 err]) ∧ Touch (fun _ => False) w w' := by
  obtain ⟨va, vc, rfl, hm⟩ := hv.form
  have hmf : ∀ (fn : Fn) (first cap : Array Value) (w : World), (Instr.makeFunc fn first cap).run Try.prog w = .ok (.func fn first cap) w := fun _ _ _ _ => rfl
  have HC := HC1 ((((w.alloc (.cells #[.slice va rs.length vc] 28)).alloc (.cells #[.int .u16 0, .int .u8 0, .int .u8 0, .int .u32 0, .int .u32 0, .int .i32 0, .int .u16 0, .int .u16 0, .slice none 0 0] 34)).alloc (.cells #[.int .u16 0, .int .u8 0, .int .u8 0, .int .u32 0, .int .u32 0, .int .i32 0, .int .u16 0, .int .u16 0, .slice none 0 0] 34)).alloc (.cells #[.int .i64 0] 35)) (((((Touch.refl _ w).alloc _).alloc _).alloc _).alloc _) (by simp [go_sem])
  clear HC1 hv
  have HF := faceS_no 36 #[.pointer (some ⟨w.heap.size, 0, none⟩)] (fun _ => rfl) ((w.alloc (.cells #[.slice va rs.length vc] 28)).alloc (.cells #[.int .u16 0, .int .u8 0, .int .u8 0, .int .u32 0, .int .u32 0, .int .i32 0, .int .u16 0, .int .u16 0, .slice none 0 0] 34)) err HC
  clear HC
  go_enter Try.func15, Try.ntmps15
  go_wp2_with fail
  refine Calls.mono HF ?_
  rintro e w1 ⟨rfl, t1⟩
  clear HF hmf
  have R1 : Room w1 (w.heap.size + 1) 9 := by
    have := (Room.new (w.alloc (.cells #[.slice va rs.length vc] 28)) #[.int .u16 0, .int .u8 0, .int .u8 0, .int .u32 0, .int .u32 0, .int .i32 0, .int .u16 0, .int .u16 0, .slice none 0 0] 34).keep t1
    simpa using this
  obtain ⟨zz0, zc0, zf0⟩ := R1 0 (by omega)
  obtain ⟨zz1, zc1, zf1⟩ := R1 1 (by omega)
  obtain ⟨zz2, zc2, zf2⟩ := R1 2 (by omega)
  obtain ⟨zz3, zc3, zf3⟩ := R1 3 (by omega)
  obtain ⟨zz4, zc4, zf4⟩ := R1 4 (by omega)
  obtain ⟨zz5, zc5, zf5⟩ := R1 5 (by omega)
  obtain ⟨zz6, zc6, zf6⟩ := R1 6 (by omega)
  obtain ⟨zz7, zc7, zf7⟩ := R1 7 (by omega)
  obtain ⟨zz8, zc8, zf8⟩ := R1 8 (by omega)
  obtain ⟨w3, hw3⟩ : ∃ w3, w3 = (((((((((w1.setCell ⟨(w.heap.size + 1), 0, none⟩ (.int .u16 0)).setCell ⟨(w.heap.size + 1), 1, none⟩ (.int .u8 0)).setCell ⟨(w.heap.size + 1), 2, none⟩ (.int .u8 0)).setCell ⟨(w.heap.size + 1), 3, none⟩ (.int .u32 0)).setCell ⟨(w.heap.size + 1), 4, none⟩ (.int .u32 0)).setCell ⟨(w.heap.size + 1), 5, none⟩ (.int .i32 0)).setCell ⟨(w.heap.size + 1), 6, none⟩ (.int .u16 0)).setCell ⟨(w.heap.size + 1), 7, none⟩ (.int .u16 0)).setCell ⟨(w.heap.size + 1), 8, none⟩ (.slice none 0 0)) := ⟨_, rfl⟩
  have xd0 : w3.cell? ⟨w.heap.size + 1, 0, none⟩ = some (.int .u16 0) := by rw [hw3]; simp [zc0, go_sem]
  have xd1 : w3.cell? ⟨w.heap.size + 1, 1, none⟩ = some (.int .u8 0) := by rw [hw3]; simp [zc1, go_sem]
  have xd2 : w3.cell? ⟨w.heap.size + 1, 2, none⟩ = some (.int .u8 0) := by rw [hw3]; simp [zc2, go_sem]
  have xd3 : w3.cell? ⟨w.heap.size + 1, 3, none⟩ = some (.int .u32 0) := by rw [hw3]; simp [zc3, go_sem]
  have xd4 : w3.cell? ⟨w.heap.size + 1, 4, none⟩ = some (.int .u32 0) := by rw [hw3]; simp [zc4, go_sem]
  have xd5 : w3.cell? ⟨w.heap.size + 1, 5, none⟩ = some (.int .i32 0) := by rw [hw3]; simp [zc5, go_sem]
  have xd6 : w3.cell? ⟨w.heap.size + 1, 6, none⟩ = some (.int .u16 0) := by rw [hw3]; simp [zc6, go_sem]
  have xd7 : w3.cell? ⟨w.heap.size + 1, 7, none⟩ = some (.int .u16 0) := by rw [hw3]; simp [zc7, go_sem]
  have xd8 : w3.cell? ⟨w.heap.size + 1, 8, none⟩ = some (.slice none 0 0) := by rw [hw3]; simp [zc8, go_sem]
  have R3 : Hid (Room w3 (w.heap.size + 1) 9) := by show Room _ _ _; rw [hw3]; exact (((((((((R1.set 0 _).set 1 _).set 2 _).set 3 _).set 4 _).set 5 _).set 6 _).set 7 _).set 8 _)
  have U3 : Hid (Touch (fun k => k = w.heap.size + 1) w1 w3) := by show Touch _ _ _; rw [hw3]; refine Touch.setCell (F := fun k => k = w.heap.size + 1) (p := ⟨w.heap.size + 1, 8, none⟩) ?_ (Or.inl rfl) _; refine Touch.setCell (F := fun k => k = w.heap.size + 1) (p := ⟨w.heap.size + 1, 7, none⟩) ?_ (Or.inl rfl) _; refine Touch.setCell (F := fun k => k = w.heap.size + 1) (p := ⟨w.heap.size + 1, 6, none⟩) ?_ (Or.inl rfl) _; refine Touch.setCell (F := fun k => k = w.heap.size + 1) (p := ⟨w.heap.size + 1, 5, none⟩) ?_ (Or.inl rfl) _; refine Touch.setCell (F := fun k => k = w.heap.size + 1) (p := ⟨w.heap.size + 1, 4, none⟩) ?_ (Or.inl rfl) _; refine Touch.setCell (F := fun k => k = w.heap.size + 1) (p := ⟨w.heap.size + 1, 3, none⟩) ?_ (Or.inl rfl) _; refine Touch.setCell (F := fun k => k = w.heap.size + 1) (p := ⟨w.heap.size + 1, 2, none⟩) ?_ (Or.inl rfl) _; refine Touch.setCell (F := fun k => k = w.heap.size + 1) (p := ⟨w.heap.size + 1, 1, none⟩) ?_ (Or.inl rfl) _; refine Touch.setCell (F := fun k => k = w.heap.size + 1) (p := ⟨w.heap.size + 1, 0, none⟩) ?_ (Or.inl rfl) _; exact Touch.refl _ _
  have HT1 : Hid (Touch (fun _ => False) ((w.alloc (.cells #[.slice va rs.length vc] 28)).alloc (.cells #[.int .u16 0, .int .u8 0, .int .u8 0, .int .u32 0, .int .u32 0, .int .i32 0, .int .u16 0, .int .u16 0, .slice none 0 0] 34)) w1) := t1
  have HW3 : Hid (w3 = (((((((((w1.setCell ⟨(w.heap.size + 1), 0, none⟩ (.int .u16 0)).setCell ⟨(w.heap.size + 1), 1, none⟩ (.int .u8 0)).setCell ⟨(w.heap.size + 1), 2, none⟩ (.int .u8 0)).setCell ⟨(w.heap.size + 1), 3, none⟩ (.int .u32 0)).setCell ⟨(w.heap.size + 1), 4, none⟩ (.int .u32 0)).setCell ⟨(w.heap.size + 1), 5, none⟩ (.int .i32 0)).setCell ⟨(w.heap.size + 1), 6, none⟩ (.int .u16 0)).setCell ⟨(w.heap.size + 1), 7, none⟩ (.int .u16 0)).setCell ⟨(w.heap.size + 1), 8, none⟩ (.slice none 0 0))) := hw3
  clear hw3 t1 R1
  go_upto_region 2 with fail
  rw [← HW3.out]
  clear HW3 zc0 zf0 zc1 zf1 zc2 zf2 zc3 zf3 zc4 zf4 zc5 zf5 zc6 zf6 zc7 zf7 zc8 zf8
  have HTA : Hid (Touch (fun _ => False) w ((w.alloc (.cells #[.slice va rs.length vc] 28)).alloc (.cells #[.int .u16 0, .int .u8 0, .int .u8 0, .int .u32 0, .int .u32 0, .int .i32 0, .int .u16 0, .int .u16 0, .slice none 0 0] 34))) := ((Touch.refl _ w).alloc _).alloc _
  generalize hg : w.heap.size + 1 = g at *
  have HG : Hid (w.heap.size + 1 = g) := hg
  clear hg
  obtain ⟨zz0, zc0, zf0⟩ := R3.out 0 (by omega)
  obtain ⟨zz1, zc1, zf1⟩ := R3.out 1 (by omega)
  obtain ⟨zz2, zc2, zf2⟩ := R3.out 2 (by omega)
  obtain ⟨zz3, zc3, zf3⟩ := R3.out 3 (by omega)
  obtain ⟨zz4, zc4, zf4⟩ := R3.out 4 (by omega)
  obtain ⟨zz5, zc5, zf5⟩ := R3.out 5 (by omega)
  obtain ⟨zz6, zc6, zf6⟩ := R3.out 6 (by omega)
  obtain ⟨zz7, zc7, zf7⟩ := R3.out 7 (by omega)
  obtain ⟨zz8, zc8, zf8⟩ := R3.out 8 (by omega)
  obtain ⟨wz, hwz⟩ : ∃ wz, wz = (((((((((w3.setCell ⟨g, 0, none⟩ (.int .u16 0)).setCell ⟨g, 1, none⟩ (.int .u8 0)).setCell ⟨g, 2, none⟩ (.int .u8 0)).setCell ⟨g, 3, none⟩ (.int .u32 0)).setCell ⟨g, 4, none⟩ (.int .u32 0)).setCell ⟨g, 5, none⟩ (.int .i32 0)).setCell ⟨g, 6, none⟩ (.int .u16 0)).setCell ⟨g, 7, none⟩ (.int .u16 0)).setCell ⟨g, 8, none⟩ (.slice none 0 0)) := ⟨_, rfl⟩
  have zd0 : wz.cell? ⟨g, 0, none⟩ = some (.int .u16 0) := by rw [hwz]; simp [zc0, go_sem]
  have zd1 : wz.cell? ⟨g, 1, none⟩ = some (.int .u8 0) := by rw [hwz]; simp [zc1, go_sem]
  have zd2 : wz.cell? ⟨g, 2, none⟩ = some (.int .u8 0) := by rw [hwz]; simp [zc2, go_sem]
  have zd3 : wz.cell? ⟨g, 3, none⟩ = some (.int .u32 0) := by rw [hwz]; simp [zc3, go_sem]
  have zd4 : wz.cell? ⟨g, 4, none⟩ = some (.int .u32 0) := by rw [hwz]; simp [zc4, go_sem]
  have zd5 : wz.cell? ⟨g, 5, none⟩ = some (.int .i32 0) := by rw [hwz]; simp [zc5, go_sem]
  have zd6 : wz.cell? ⟨g, 6, none⟩ = some (.int .u16 0) := by rw [hwz]; simp [zc6, go_sem]
  have zd7 : wz.cell? ⟨g, 7, none⟩ = some (.int .u16 0) := by rw [hwz]; simp [zc7, go_sem]
  have zd8 : wz.cell? ⟨g, 8, none⟩ = some (.slice none 0 0) := by rw [hwz]; simp [zc8, go_sem]
  have HUz : Hid (Touch (fun k => k = g) w3 wz) := by show Touch _ _ _; rw [hwz]; refine Touch.setCell (F := fun k => k = g) (p := ⟨g, 8, none⟩) ?_ (Or.inl rfl) _; refine Touch.setCell (F := fun k => k = g) (p := ⟨g, 7, none⟩) ?_ (Or.inl rfl) _; refine Touch.setCell (F := fun k => k = g) (p := ⟨g, 6, none⟩) ?_ (Or.inl rfl) _; refine Touch.setCell (F := fun k => k = g) (p := ⟨g, 5, none⟩) ?_ (Or.inl rfl) _; refine Touch.setCell (F := fun k => k = g) (p := ⟨g, 4, none⟩) ?_ (Or.inl rfl) _; refine Touch.setCell (F := fun k => k = g) (p := ⟨g, 3, none⟩) ?_ (Or.inl rfl) _; refine Touch.setCell (F := fun k => k = g) (p := ⟨g, 2, none⟩) ?_ (Or.inl rfl) _; refine Touch.setCell (F := fun k => k = g) (p := ⟨g, 1, none⟩) ?_ (Or.inl rfl) _; refine Touch.setCell (F := fun k => k = g) (p := ⟨g, 0, none⟩) ?_ (Or.inl rfl) _; exact Touch.refl _ _
  have HWz : Hid (wz = (((((((((w3.setCell ⟨g, 0, none⟩ (.int .u16 0)).setCell ⟨g, 1, none⟩ (.int .u8 0)).setCell ⟨g, 2, none⟩ (.int .u8 0)).setCell ⟨g, 3, none⟩ (.int .u32 0)).setCell ⟨g, 4, none⟩ (.int .u32 0)).setCell ⟨g, 5, none⟩ (.int .i32 0)).setCell ⟨g, 6, none⟩ (.int .u16 0)).setCell ⟨g, 7, none⟩ (.int .u16 0)).setCell ⟨g, 8, none⟩ (.slice none 0 0))) := hwz
  clear hwz
  go_wp2_with fail
  rw [← HWz.out]
  clear HWz zc0 zf0 zc1 zf1 zc2 zf2 zc3 zf3 zc4 zf4 zc5 zf5 zc6 zf6 zc7 zf7 zc8 zf8
  refine bodyPost_ret (v := .tuple #[.agg #[.int .u16 0, .int .u8 0, .int .u8 0, .int .u32 0, .int .u32 0, .int .i32 0, .int .u16 0, .int .u16 0, .slice none 0 0], .int .i64 0, .int .i64 err]) (by simp [results, Try.results15, go_sem, zd0, zd1, zd2, zd3, zd4, zd5, zd6, zd7, zd8]) rfl ?_
  refine ⟨rfl, ?_⟩
  exact ((HTA.out.trans HT1.out).trans' U3.out (fun i hi e => by have := HG.out; omega)).trans' HUz.out (fun i hi e => by have := HG.out; omega)
/-- What Read tells of bytes that it refuses. -/
def readE (rs : List Int) : Int := if rs.length < 20 then 10 else if (rdHead (rs.take 20)).len < 20 then 22 else if (rs.length : Int) < (rdHead (rs.take 20)).len then 10 else 0
theorem read_bad (v : Value) (rs : List Int) (w : World) (hv : ArgAt w v rs) (hby : ∀ z ∈ rs, 0 ≤ z ∧ z < 256) (hl2 : rs.length ≤ 1099511627776) (he : readE rs ≠ 0) :
    Calls Try.prog 15 #[v] w fun e w' => e = .returned (.tuple #[.agg #[.int .u16 0, .int .u8 0, .int .u8 0, .int .u32 0, .int .u32 0, .int .i32 0, .int .u16 0, .int .u16 0, .slice none 0 0], .int .i64 0, .int .i64 (readE rs)]) ∧ Touch (fun _ => False) w w' := by
  by_cases h1 : rs.length < 20
  · have e : readE rs = 10 := by simp [readE, h1]
    rw [e]
    exact read_no v rs 10 w hv (fun w' t hc => read1_short _ v rs w' hc (hv.keepN t) hby h1)
  · by_cases h2 : (rdHead (rs.take 20)).len < 20
    · have e : readE rs = 22 := by simp [readE, h1, h2]
      rw [e]
      exact read_no v rs 22 w hv (fun w' t hc => read1_low _ v rs w' hc (hv.keepN t) hby (by omega) hl2 h2)
    · by_cases h3 : (rs.length : Int) < (rdHead (rs.take 20)).len
      · have e : readE rs = 10 := by simp [readE, h1, h2, h3]
        rw [e]
        exact read_no v rs 10 w hv (fun w' t hc => read1_miss _ v rs w' hc (hv.keepN t) hby (by omega) hl2 (by omega) h3)
      · simp [readE, h1, h2, h3] at he
end Go.Proofs.Ytfdpmlogieaiaaa
