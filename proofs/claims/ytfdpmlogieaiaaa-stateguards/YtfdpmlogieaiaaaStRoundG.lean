/- The walk of StateRound where Encode answers. -/
import Derived.Test.YtfdpmlogieaiaaaStRound
import Derived.Test.YtfdpmlogieaiaaaStRow0
import Derived.Laws.BitsAllLaws
namespace Go.Proofs.Ytfdpmlogieaiaaa
open Go.RowKit
set_option linter.unusedVariables false
set_option maxRecDepth 100000

/-- What Check says at an age. -/
def chkJ (h : HV) (age : Int) : Int := if h.seq = -2147483648 ∨ ¬ bits BinOp.andNot .u16 age 32768 ≤ 3600 then 24 else 0
/-- What the calls answer of the state that was made. -/
structure RC (S : HV) (l : List Int) (B : BV) (h : HV) (age : Int) : Prop where
  hcp : ∀ w' u, ArgAt w' u l → Calls Try.prog 10 #[.agg #[.int .u16 S.age, .int .u8 S.opts, .int .u8 S.typ, .int .u32 S.id, .int .u32 S.adv, .int .i32 S.seq, .int .u16 S.sum, .int .u16 S.len, u]] w' fun e w'' => ∃ xa xc, e = .returned (.agg #[.int .u16 S.age, .int .u8 S.opts, .int .u8 S.typ, .int .u32 S.id, .int .u32 S.adv, .int .i32 S.seq, .int .u16 S.sum, .int .u16 S.len, .slice xa l.length xc]) ∧ Buf w' w'' (.slice xa l.length xc) l
  hdc : ∀ w' u, ArgAt w' u l → Calls Try.prog 9 #[.agg #[.int .u16 S.age, .int .u8 S.opts, .int .u8 S.typ, .int .u32 S.id, .int .u32 S.adv, .int .i32 S.seq, .int .u16 S.sum, .int .u16 S.len, u]] w' fun e w'' => ∃ (b1 : Option Addr) (p1 : Nat) (b3 : Option Addr) (p3 : Nat) (b8 : Option Addr) (p8 : Nat), e = .returned (.tuple #[.agg #[.int .u8 B.flags, .slice b1 B.links.length p1, .int .u32 B.mask, .slice b3 B.routers.length p3, .int .u32 B.metric, .bool B.type2, .int .u32 B.fwd, .int .u32 B.tag, .slice b8 B.data.length p8], .int .i64 0]) ∧ BOwn w'.heap.size w'' B (.slice b1 B.links.length p1) (.slice b3 B.routers.length p3) (.slice b8 B.data.length p8) ∧ Touch (fun _ => False) w' w''
  hen : ∀ b1 b3 b8 p1 p3 p8 w', BArg w' B (.slice b1 B.links.length p1) (.slice b3 B.routers.length p3) (.slice b8 B.data.length p8) → Calls Try.prog 7 #[.agg #[.int .u16 S.age, .int .u8 S.opts, .int .u8 S.typ, .int .u32 S.id, .int .u32 S.adv, .int .i32 S.seq, .int .u16 S.sum, .int .u16 S.len], .agg #[.int .u8 B.flags, .slice b1 B.links.length p1, .int .u32 B.mask, .slice b3 B.routers.length p3, .int .u32 B.metric, .bool B.type2, .int .u32 B.fwd, .int .u32 B.tag, .slice b8 B.data.length p8]] w' fun e w'' => ∃ xa xc, e = .returned (.tuple #[.agg #[.int .u16 S.age, .int .u8 S.opts, .int .u8 S.typ, .int .u32 S.id, .int .u32 S.adv, .int .i32 S.seq, .int .u16 S.sum, .int .u16 S.len, .slice xa l.length xc], .int .i64 0]) ∧ Buf w' w'' (.slice xa l.length xc) l
  hse : ∀ w' u, ArgAt w' u l → Calls Try.prog 12 #[.agg #[.int .u16 S.age, .int .u8 S.opts, .int .u8 S.typ, .int .u32 S.id, .int .u32 S.adv, .int .i32 S.seq, .int .u16 S.sum, .int .u16 S.len, u]] w' fun e w'' => ∃ xa xc, e = .returned (.tuple #[.agg #[.int .u16 S.age, .int .u8 S.opts, .int .u8 S.typ, .int .u32 S.id, .int .u32 S.adv, .int .i32 S.seq, .int .u16 S.sum, .int .u16 S.len, .slice xa l.length xc], .int .i64 0]) ∧ Buf w' w'' (.slice xa l.length xc) l
  heq : ∀ va vb w', RowAt w' va l → ArgAt w' vb l → Calls Try.prog 13 #[.agg #[.int .u16 S.age, .int .u8 S.opts, .int .u8 S.typ, .int .u32 S.id, .int .u32 S.adv, .int .i32 S.seq, .int .u16 S.sum, .int .u16 S.len, va], .agg #[.int .u16 S.age, .int .u8 S.opts, .int .u8 S.typ, .int .u32 S.id, .int .u32 S.adv, .int .i32 S.seq, .int .u16 S.sum, .int .u16 S.len, vb]] w' fun e w'' => e = .returned (.bool true) ∧ Touch (fun _ => False) w' w''
  hck : ∀ w' u, ArgAt w' u l → Calls Try.prog 14 #[.agg #[.int .u16 age, .int .u8 S.opts, .int .u8 S.typ, .int .u32 S.id, .int .u32 S.adv, .int .i32 S.seq, .int .u16 S.sum, .int .u16 S.len, u]] w' fun e w'' => e = .returned (.int .i64 (chkJ h age)) ∧ Touch (fun _ => False) w' w''
  hby : ∀ w' u, ArgAt w' u l → Calls Try.prog 16 #[.agg #[.int .u16 S.age, .int .u8 S.opts, .int .u8 S.typ, .int .u32 S.id, .int .u32 S.adv, .int .i32 S.seq, .int .u16 S.sum, .int .u16 S.len, u]] w' fun e w'' => ∃ xa xc, e = .returned (.slice xa (20 + l.length) xc) ∧ ArgAt w'' (.slice xa (20 + l.length) xc) (headB S ++ l) ∧ Touch (fun _ => False) w' w''
  hrd : ∀ w' u, ArgAt w' u (headB S ++ l) → Calls Try.prog 15 #[u] w' fun e w'' => ∃ xa xc, e = .returned (.tuple #[.agg #[.int .u16 S.age, .int .u8 S.opts, .int .u8 S.typ, .int .u32 S.id, .int .u32 S.adv, .int .i32 S.seq, .int .u16 S.sum, .int .u16 S.len, .slice xa l.length xc], .int .i64 S.len, .int .i64 0]) ∧ Buf w' w'' (.slice xa l.length xc) l
theorem rc_of {h : HV} {B : BV} {age : Int} (OK : h.All) (OKB : B.Ok) (LT : Light B) (he : EncOk h.typ B) (hage : 0 ≤ age ∧ age < 65536) : RC (sealH h (layB h.typ B)) (layB h.typ B) B h age := by
  have hsl := seal_all OK he.len
  have ALLS : Hid (sealH h (layB h.typ B)).All := hsl
  have LB : Hid (∀ z ∈ layB h.typ B, 0 ≤ z ∧ z < 256) := layB_byte OKB
  have LL : Hid ((layB h.typ B).length ≤ 65515) := he.len
  have DB : Hid (decB h.typ (layB h.typ B) = some B) := decB_layB OKB ((mayB_iff _ _).1 he.may)
  have HCP : ∀ w' u, ArgAt w' u (layB h.typ B) → Calls Try.prog 10 #[(sealH h (layB h.typ B)).sv u] w' fun e w'' => ∃ xa xc, e = .returned ((sealH h (layB h.typ B)).sv (.slice xa (layB h.typ B).length xc)) ∧ Buf w' w'' (.slice xa (layB h.typ B).length xc) (layB h.typ B) := fun w' u hu => (cstate_any _ u _ w' hu (by have := he.len; omega)).mono (by rintro e w'' ⟨x, rfl, b⟩; obtain ⟨xa, xc, rfl⟩ := b.form; exact ⟨xa, xc, rfl, b⟩)
  have HDC : ∀ w' u, ArgAt w' u (layB h.typ B) → Calls Try.prog 9 #[(sealH h (layB h.typ B)).sv u] w' fun e w'' => ∃ (b1 : Option Addr) (p1 : Nat) (b3 : Option Addr) (p3 : Nat) (b8 : Option Addr) (p8 : Nat), e = .returned (.tuple #[B.v (.slice b1 B.links.length p1) (.slice b3 B.routers.length p3) (.slice b8 B.data.length p8), .int .i64 0]) ∧ BOwn w'.heap.size w'' B (.slice b1 B.links.length p1) (.slice b3 B.routers.length p3) (.slice b8 B.data.length p8) ∧ Touch (fun _ => False) w' w'' := fun w' u hu => (decode_good _ hsl u _ w' B hu LB.out rfl he.known DB.out).mono (by rintro e w'' ⟨vl, vr, vd, rfl, o, t⟩; obtain ⟨b1, p1, b3, p3, b8, p8, rfl, rfl, rfl⟩ := o.form; exact ⟨b1, p1, b3, p3, b8, p8, rfl, o, t⟩)
  have HEN : ∀ b1 b3 b8 p1 p3 p8 w', BArg w' B (.slice b1 B.links.length p1) (.slice b3 B.routers.length p3) (.slice b8 B.data.length p8) → Calls Try.prog 7 #[(sealH h (layB h.typ B)).v, B.v (.slice b1 B.links.length p1) (.slice b3 B.routers.length p3) (.slice b8 B.data.length p8)] w' fun e w'' => ∃ xa xc, e = .returned (.tuple #[(sealH h (layB h.typ B)).sv (.slice xa (layB h.typ B).length xc), .int .i64 0]) ∧ Buf w' w'' (.slice xa (layB h.typ B).length xc) (layB h.typ B) := fun b1 b3 b8 p1 p3 p8 w' hA => (encode_good (sealH h (layB h.typ B)) hsl B OKB LT b1 b3 b8 p1 p3 p8 w' hA he).mono (by
    have e0 : sealH (sealH h (layB h.typ B)) (layB (sealH h (layB h.typ B)).typ B) = sealH h (layB h.typ B) := seal_again h (layB h.typ B)
    rintro e w'' ⟨x, rfl, b⟩
    rw [e0]
    have b' : Buf w' w'' x (layB h.typ B) := b
    obtain ⟨xa, xc, rfl⟩ := b'.form
    exact ⟨xa, xc, rfl, b'⟩)
  have HSE : ∀ w' u, ArgAt w' u (layB h.typ B) → Calls Try.prog 12 #[(sealH h (layB h.typ B)).sv u] w' fun e w'' => ∃ xa xc, e = .returned (.tuple #[(sealH h (layB h.typ B)).sv (.slice xa (layB h.typ B).length xc), .int .i64 0]) ∧ Buf w' w'' (.slice xa (layB h.typ B).length xc) (layB h.typ B) := fun w' u hu => (seal_good _ hsl u _ w' hu LB.out LL.out).mono (by
    rintro e w'' ⟨x, rfl, b⟩
    rw [seal_again]
    obtain ⟨xa, xc, rfl⟩ := b.form
    exact ⟨xa, xc, rfl, b⟩)
  have HEQ : ∀ va vb w', RowAt w' va (layB h.typ B) → ArgAt w' vb (layB h.typ B) → Calls Try.prog 13 #[(sealH h (layB h.typ B)).sv va, (sealH h (layB h.typ B)).sv vb] w' fun e w'' => e = .returned (.bool true) ∧ Touch (fun _ => False) w' w'' := fun va vb w' h1 h2 => estate_true _ va vb _ w' h1 h2
  have HCK : ∀ w' u, ArgAt w' u (layB h.typ B) → Calls Try.prog 14 #[{ sealH h (layB h.typ B) with age := age }.sv u] w' fun e w'' => e = .returned (.int .i64 (chkJ h age)) ∧ Touch (fun _ => False) w' w'' := fun w' u hu => by
    have := check_any { sealH h (layB h.typ B) with age := age } (all_age hsl hage) u _ w' hu LB.out (by have := he.len; omega)
    rw [chk_age OKB he age] at this
    exact this
  have HBY : ∀ w' u, ArgAt w' u (layB h.typ B) → Calls Try.prog 16 #[(sealH h (layB h.typ B)).sv u] w' fun e w'' => ∃ xa xc, e = .returned (.slice xa (20 + (layB h.typ B).length) xc) ∧ ArgAt w'' (.slice xa (20 + (layB h.typ B).length) xc) (headB (sealH h (layB h.typ B)) ++ layB h.typ B) ∧ Touch (fun _ => False) w' w'' := fun w' u hu => (bytes_any _ hsl u _ w' hu (by have := he.len; omega)).mono (by
    rintro e w'' ⟨x, rfl, b⟩
    obtain ⟨xa, xc, rfl⟩ := b.form
    have ha := b.arg
    have hll : (headB (sealH h (layB h.typ B)) ++ layB h.typ B).length = 20 + (layB h.typ B).length := by rw [List.length_append, length_headB]
    rw [hll] at ha ⊢
    exact ⟨xa, xc, rfl, ha, b.t⟩)
  have HRD : ∀ w' u, ArgAt w' u (headB (sealH h (layB h.typ B)) ++ layB h.typ B) → Calls Try.prog 15 #[u] w' fun e w'' => ∃ xa xc, e = .returned (.tuple #[(sealH h (layB h.typ B)).sv (.slice xa (layB h.typ B).length xc), .int .i64 (sealH h (layB h.typ B)).len, .int .i64 0]) ∧ Buf w' w'' (.slice xa (layB h.typ B).length xc) (layB h.typ B) := fun w' u hu => by
    have hll : (headB (sealH h (layB h.typ B)) ++ layB h.typ B).length = 20 + (layB h.typ B).length := by rw [List.length_append, length_headB]
    have e1 : (sealH h (layB h.typ B)).len = 20 + ((layB h.typ B).length : Int) := rfl
    have hle := he.len
    have := read_good u (headB (sealH h (layB h.typ B)) ++ layB h.typ B) w' hu (fun z hz => by
      rcases List.mem_append.1 hz with h' | h'
      · exact headB_byte hsl z h'
      · exact LB.out z h') (by rw [hll]; omega) (by rw [hll]; omega) (sealH h (layB h.typ B)) (by rw [take_headB]; exact rdHead_headB _ hsl) (by rw [e1]; omega) (by rw [e1, hll]; push_cast; omega)
    rw [drop_headB, List.take_of_length_le (by rw [e1]; omega)] at this
    refine this.mono ?_
    rintro e w'' ⟨x, rfl, b⟩
    obtain ⟨xa, xc, rfl⟩ := b.form
    exact ⟨xa, xc, rfl, b⟩
  exact ⟨HCP, HDC, HEN, HSE, HEQ, HCK, HBY, HRD⟩
set_option maxHeartbeats 4000000 in
theorem round_good (h : HV) (ok : h.All) (B : BV) (okb : B.Ok) (a1 a3 a8 : Option Addr) (q1 q3 q8 : Nat) (age : Int) (w : World) (hA : BArg w B (.slice a1 B.links.length q1) (.slice a3 B.routers.length q3) (.slice a8 B.data.length q8)) (hv : ¬ (8192 < B.links.length ∨ 32768 < B.routers.length ∨ 131072 < B.data.length)) (he : EncOk h.typ B) (hage : 0 ≤ age ∧ age < 65536) :
    Calls Try.prog 3 #[h.v, B.v (.slice a1 B.links.length q1) (.slice a3 B.routers.length q3) (.slice a8 B.data.length q8), .int .u16 age] w fun e w' => e = .returned (.bool true) ∧ Touch (fun _ => False) w w' := by
  have OK : Hid h.All := ok
  have OKB : Hid B.Ok := okb
  have HA : Hid (BArg w B (.slice a1 B.links.length q1) (.slice a3 B.routers.length q3) (.slice a8 B.data.length q8)) := hA
  have T0 : Hid (Touch (fun _ => False) w ((w.alloc (.cells #[.int .u16 h.age, .int .u8 h.opts, .int .u8 h.typ, .int .u32 h.id, .int .u32 h.adv, .int .i32 h.seq, .int .u16 h.sum, .int .u16 h.len] 25)).alloc (.cells #[.int .u8 B.flags, .slice a1 B.links.length q1, .int .u32 B.mask, .slice a3 B.routers.length q3, .int .u32 B.metric, .bool B.type2, .int .u32 B.fwd, .int .u32 B.tag, .slice a8 B.data.length q8] 30))) := ((Touch.refl _ w).alloc _).alloc _
  have HH0 : Hid (Hd ((w.alloc (.cells #[.int .u16 h.age, .int .u8 h.opts, .int .u8 h.typ, .int .u32 h.id, .int .u32 h.adv, .int .i32 h.seq, .int .u16 h.sum, .int .u16 h.len] 25)).alloc (.cells #[.int .u8 B.flags, .slice a1 B.links.length q1, .int .u32 B.mask, .slice a3 B.routers.length q3, .int .u32 B.metric, .bool B.type2, .int .u32 B.fwd, .int .u32 B.tag, .slice a8 B.data.length q8] 30)) w.heap.size h) := (Hd.new w h 25).keep ((Touch.refl _ _).alloc _)
  have HB0 : Hid (Bd ((w.alloc (.cells #[.int .u16 h.age, .int .u8 h.opts, .int .u8 h.typ, .int .u32 h.id, .int .u32 h.adv, .int .i32 h.seq, .int .u16 h.sum, .int .u16 h.len] 25)).alloc (.cells #[.int .u8 B.flags, .slice a1 B.links.length q1, .int .u32 B.mask, .slice a3 B.routers.length q3, .int .u32 B.metric, .bool B.type2, .int .u32 B.fwd, .int .u32 B.tag, .slice a8 B.data.length q8] 30)) (w.heap.size + 1) B (.slice a1 B.links.length q1) (.slice a3 B.routers.length q3) (.slice a8 B.data.length q8)) := by
    have := Bd.new (w.alloc (.cells #[.int .u16 h.age, .int .u8 h.opts, .int .u8 h.typ, .int .u32 h.id, .int .u32 h.adv, .int .i32 h.seq, .int .u16 h.sum, .int .u16 h.len] 25)) B (.slice a1 B.links.length q1) (.slice a3 B.routers.length q3) (.slice a8 B.data.length q8) 30
    show Bd _ _ _ _ _ _
    simpa using this
  have SZ0 : Hid (((w.alloc (.cells #[.int .u16 h.age, .int .u8 h.opts, .int .u8 h.typ, .int .u32 h.id, .int .u32 h.adv, .int .i32 h.seq, .int .u16 h.sum, .int .u16 h.len] 25)).alloc (.cells #[.int .u8 B.flags, .slice a1 B.links.length q1, .int .u32 B.mask, .slice a3 B.routers.length q3, .int .u32 B.metric, .bool B.type2, .int .u32 B.fwd, .int .u32 B.tag, .slice a8 B.data.length q8] 30)).heap.size = w.heap.size + 2) := by show _ = _; simp
  clear ok okb hA
  show Calls Try.prog 3 #[.agg #[.int .u16 h.age, .int .u8 h.opts, .int .u8 h.typ, .int .u32 h.id, .int .u32 h.adv, .int .i32 h.seq, .int .u16 h.sum, .int .u16 h.len], .agg #[.int .u8 B.flags, .slice a1 B.links.length q1, .int .u32 B.mask, .slice a3 B.routers.length q3, .int .u32 B.metric, .bool B.type2, .int .u32 B.fwd, .int .u32 B.tag, .slice a8 B.data.length q8], .int .u16 age] w _
  go_enter Try.func3, Try.ntmps3
  go_upto_region 1 with fail
  generalize ((w.alloc (.cells #[.int .u16 h.age, .int .u8 h.opts, .int .u8 h.typ, .int .u32 h.id, .int .u32 h.adv, .int .i32 h.seq, .int .u16 h.sum, .int .u16 h.len] 25)).alloc (.cells #[.int .u8 B.flags, .slice a1 B.links.length q1, .int .u32 B.mask, .slice a3 B.routers.length q3, .int .u32 B.metric, .bool B.type2, .int .u32 B.fwd, .int .u32 B.tag, .slice a8 B.data.length q8] 30)) = w0 at *
  generalize hg4 : w.heap.size + 1 = g4 at *
  have HG4 : Hid (w.heap.size + 1 = g4) := hg4
  generalize hg3 : w.heap.size = g3 at *
  have HG3 : Hid (w.heap.size = g3) := hg3
  clear hg3 hg4
  obtain ⟨d0, d1, d2, d3, d4, d5, d6, d7, d8⟩ := HB0.out
  go_wp2_with fail
  have HE : Hid (EncOk h.typ B) := he
  have LT : Hid (Light B) := ⟨by omega, by omega, by omega⟩
  refine Calls.mono (heavy_no B a1 a3 a8 q1 q3 q8 _ hv) ?_
  rintro e w1 ⟨rfl, t1⟩
  have T1 : Hid (Touch (fun _ => False) w w1) := T0.out.trans t1
  have HH1 : Hid (Hd w1 g3 h) := HH0.out.keep t1
  have HB1 : Hid (Bd w1 g4 B (.slice a1 B.links.length q1) (.slice a3 B.routers.length q3) (.slice a8 B.data.length q8)) := HB0.out.keep t1
  have HA1 : Hid (BArg w1 B (.slice a1 B.links.length q1) (.slice a3 B.routers.length q3) (.slice a8 B.data.length q8)) := HA.out.keep T1.out
  have hr1 : g4 < w1.heap.size := lt_of_cell HB1.out.c0
  have hr34 : g3 < g4 := by have := HG4.out; omega
  clear t1 d0 d1 d2 d3 d4 d5 d6 d7 d8 HH0 HB0 SZ0 T0
  go_upto_region 3 with fail
  have HC17 : Hid (w1.cell? ⟨g3, 0, none⟩ = some (.int .u16 h.age) ∧ w1.cell? ⟨g3, 1, none⟩ = some (.int .u8 h.opts) ∧ w1.cell? ⟨g3, 2, none⟩ = some (.int .u8 h.typ) ∧ w1.cell? ⟨g3, 3, none⟩ = some (.int .u32 h.id) ∧ w1.cell? ⟨g3, 4, none⟩ = some (.int .u32 h.adv) ∧ w1.cell? ⟨g3, 5, none⟩ = some (.int .i32 h.seq) ∧ w1.cell? ⟨g3, 6, none⟩ = some (.int .u16 h.sum) ∧ w1.cell? ⟨g3, 7, none⟩ = some (.int .u16 h.len) ∧ w1.cell? ⟨g4, 0, none⟩ = some (.int .u8 B.flags) ∧ w1.cell? ⟨g4, 1, none⟩ = some (.slice a1 B.links.length q1) ∧ w1.cell? ⟨g4, 2, none⟩ = some (.int .u32 B.mask) ∧ w1.cell? ⟨g4, 3, none⟩ = some (.slice a3 B.routers.length q3) ∧ w1.cell? ⟨g4, 4, none⟩ = some (.int .u32 B.metric) ∧ w1.cell? ⟨g4, 5, none⟩ = some (.bool B.type2) ∧ w1.cell? ⟨g4, 6, none⟩ = some (.int .u32 B.fwd) ∧ w1.cell? ⟨g4, 7, none⟩ = some (.int .u32 B.tag) ∧ w1.cell? ⟨g4, 8, none⟩ = some (.slice a8 B.data.length q8)) := by
    obtain ⟨v0, v1, v2, v3, v4, v5, v6, v7⟩ := HH1.out
    obtain ⟨v8, v9, v10, v11, v12, v13, v14, v15, v16⟩ := HB1.out
    exact ⟨v0, v1, v2, v3, v4, v5, v6, v7, v8, v9, v10, v11, v12, v13, v14, v15, v16⟩
  have HC1 : w1.drew.cell? ⟨g3, 0, none⟩ = some (.int .u16 h.age) ∧ w1.drew.cell? ⟨g3, 1, none⟩ = some (.int .u8 h.opts) ∧ w1.drew.cell? ⟨g3, 2, none⟩ = some (.int .u8 h.typ) ∧ w1.drew.cell? ⟨g3, 3, none⟩ = some (.int .u32 h.id) ∧ w1.drew.cell? ⟨g3, 4, none⟩ = some (.int .u32 h.adv) ∧ w1.drew.cell? ⟨g3, 5, none⟩ = some (.int .i32 h.seq) ∧ w1.drew.cell? ⟨g3, 6, none⟩ = some (.int .u16 h.sum) ∧ w1.drew.cell? ⟨g3, 7, none⟩ = some (.int .u16 h.len) ∧ w1.drew.cell? ⟨g4, 0, none⟩ = some (.int .u8 B.flags) ∧ w1.drew.cell? ⟨g4, 1, none⟩ = some (.slice a1 B.links.length q1) ∧ w1.drew.cell? ⟨g4, 2, none⟩ = some (.int .u32 B.mask) ∧ w1.drew.cell? ⟨g4, 3, none⟩ = some (.slice a3 B.routers.length q3) ∧ w1.drew.cell? ⟨g4, 4, none⟩ = some (.int .u32 B.metric) ∧ w1.drew.cell? ⟨g4, 5, none⟩ = some (.bool B.type2) ∧ w1.drew.cell? ⟨g4, 6, none⟩ = some (.int .u32 B.fwd) ∧ w1.drew.cell? ⟨g4, 7, none⟩ = some (.int .u32 B.tag) ∧ w1.drew.cell? ⟨g4, 8, none⟩ = some (.slice a8 B.data.length q8) := HC17.out
  obtain ⟨v0, v1, v2, v3, v4, v5, v6, v7, v8, v9, v10, v11, v12, v13, v14, v15, v16⟩ := HC1
  have A1 : RnA w1 w1.drew := (RnA.mk (Touch.refl _ _)).drew
  have B1 : RnB w1 w1.heap.size (w1.alloc (.cells #[.int .u16 0, .int .u8 0, .int .u8 0, .int .u32 0, .int .u32 0, .int .i32 0, .int .u16 0, .int .u16 0, .slice none 0 0] 34)).drew := ((RnA.mk (Touch.refl _ w1)).two).drew
  have hx3 : g3 ≠ w1.heap.size := by omega
  have hx4 : g4 ≠ w1.heap.size := by omega
  go_region_held3 (fun w' => w'.cell? ⟨g3, 0, none⟩ = some (.int .u16 h.age) ∧ w'.cell? ⟨g3, 1, none⟩ = some (.int .u8 h.opts) ∧ w'.cell? ⟨g3, 2, none⟩ = some (.int .u8 h.typ) ∧ w'.cell? ⟨g3, 3, none⟩ = some (.int .u32 h.id) ∧ w'.cell? ⟨g3, 4, none⟩ = some (.int .u32 h.adv) ∧ w'.cell? ⟨g3, 5, none⟩ = some (.int .i32 h.seq) ∧ w'.cell? ⟨g3, 6, none⟩ = some (.int .u16 h.sum) ∧ w'.cell? ⟨g3, 7, none⟩ = some (.int .u16 h.len) ∧ w'.cell? ⟨g4, 0, none⟩ = some (.int .u8 B.flags) ∧ w'.cell? ⟨g4, 1, none⟩ = some (.slice a1 B.links.length q1) ∧ w'.cell? ⟨g4, 2, none⟩ = some (.int .u32 B.mask) ∧ w'.cell? ⟨g4, 3, none⟩ = some (.slice a3 B.routers.length q3) ∧ w'.cell? ⟨g4, 4, none⟩ = some (.int .u32 B.metric) ∧ w'.cell? ⟨g4, 5, none⟩ = some (.bool B.type2) ∧ w'.cell? ⟨g4, 6, none⟩ = some (.int .u32 B.fwd) ∧ w'.cell? ⟨g4, 7, none⟩ = some (.int .u32 B.tag) ∧ w'.cell? ⟨g4, 8, none⟩ = some (.slice a8 B.data.length q8)) (with_reducible first | exact keep17 (RnA.t (by assumption)) HC17.out | exact keep17 (RnB.t (by assumption)) HC17.out | exact keep17 (RnA2.t (by assumption)) HC17.out | exact keep17 (RnB2.t (by assumption)) HC17.out | exact far17 (by assumption) (by assumption) (keep17 (RnB3.t (by assumption)) HC17.out) | exact keep17 (RnA3.t (by assumption)) HC17.out | exact keep17 (RnB3.t (by assumption)) HC17.out | exact keep17 (by assumption) HC17.out | exact keep17 (RnS.t (by assumption)) HC17.out) (first
    | (go_at_call 8; refine Calls.mono (rnA_copy LT.out HA1.out (by assumption)) ?_; rintro e wx ⟨b1, p1, b3, p3, b8, p8, rfl, Ax⟩; have Bx := Ax.two; unfold BV.v)
    | (go_at_call 8; refine Calls.mono (rnB_copy LT.out HA1.out (by assumption)) ?_; rintro e wx ⟨b1, p1, b3, p3, b8, p8, rfl, Bx⟩; unfold BV.v)
    | (go_at_call 7; refine Calls.mono (rnA_enc OK.out OKB.out LT.out HE.out (by assumption)) ?_; rintro e wn ⟨ua, uc, rfl, An⟩; have An2 := An.two; have Cn := rn_alloc (sealH h (layB h.typ B)) An; unfold HV.sv)
    | (go_at_call 7; refine Calls.mono (rnB_enc OK.out OKB.out LT.out HE.out (by assumption)) ?_; rintro e wn ⟨ua, uc, rfl, Bn⟩; have hrm := Bn.rm; obtain ⟨zz0, zc0, zf0⟩ := hrm 0 (by omega); obtain ⟨zz1, zc1, zf1⟩ := hrm 1 (by omega); obtain ⟨zz2, zc2, zf2⟩ := hrm 2 (by omega); obtain ⟨zz3, zc3, zf3⟩ := hrm 3 (by omega); obtain ⟨zz4, zc4, zf4⟩ := hrm 4 (by omega); obtain ⟨zz5, zc5, zf5⟩ := hrm 5 (by omega); obtain ⟨zz6, zc6, zf6⟩ := hrm 6 (by omega); obtain ⟨zz7, zc7, zf7⟩ := hrm 7 (by omega); obtain ⟨zz8, zc8, zf8⟩ := hrm 8 (by omega); have Cn := rn_chain (sealH h (layB h.typ B)) Bn; unfold HV.sv))
  all_goals
    obtain ⟨gs, wS, hgs, hwS, D⟩ := rn_pack Cn
    rw [← hwS, ← hgs]
    refine (‹∀ (a : Act) (w_1 : World), Code.wp Try.prog _ _ a w_1 → _›) _ _ ?_
    clear hgs hwS
    try clear Cn; try clear An2; try clear An; try clear Bn; try clear Ax; try clear Bx; try clear A1; try clear B1; try clear HC17; try clear v0; try clear v1; try clear v2; try clear v3; try clear v4; try clear v5; try clear v6; try clear v7; try clear v8; try clear v9; try clear v10; try clear v11; try clear v12; try clear v13; try clear v14; try clear v15; try clear v16; try clear zc0; try clear zc1; try clear zc2; try clear zc3; try clear zc4; try clear zc5; try clear zc6; try clear zc7; try clear zc8; try clear zf0; try clear zf1; try clear zf2; try clear zf3; try clear zf4; try clear zf5; try clear zf6; try clear zf7; try clear zf8; try clear hx3; try clear hx4
    have RCC := rc_of OK.out OKB.out LT.out he hage
    have hlen : (sealH h (layB h.typ B)).len = 20 + ((layB h.typ B).length : Int) := rfl
    have hsum : (sealH h (layB h.typ B)).sum ≠ 0 := by have := sealS_bound h (layB h.typ B); show sealS h (layB h.typ B) ≠ 0; omega
    have hlb : (layB h.typ B).length ≤ 65515 := he.len
    have HHL : Hid ((headB (sealH h (layB h.typ B)) ++ layB h.typ B).length = 20 + (layB h.typ B).length) := by show _ = _; rw [List.length_append, length_headB]
    clear HE
    generalize hL : layB h.typ B = l at *
    generalize hS : sealH h l = S at *
    clear hL hS he
    obtain ⟨HCP, HDC, HEN, HSE, HEQ, HCK, HBY, HRD⟩ := RCC
    have hwl : IntKind.i64.wrap S.len = S.len := by simp [IntKind.wrap, IntKind.bits, IntKind.signed]; omega
    have hle : (S.len != 20 + (l.length : Int)) = false := by rw [hlen]; simp
    have hse : (S.sum == 0) = false := by simpa using hsum
    have hl20 : ((20 : Int) + (l.length : Int) == (l.length : Int) + 20) = true := by simp; omega
    have hle2 : (S.len == (l.length : Int) + 20) = true := by rw [hlen]; simp; omega
    clear hlen hsum
    have TW0 : Hid (Touch (fun _ => False) w wS) := T1.out.trans D.t
    have HS0 : Hid (Sd wS gs S (.slice ua l.length uc)) := D.s
    have AS0 : Hid (ArgAt wS (.slice ua l.length uc) l) := D.a
    have HH0 : Hid (Hd wS g3 h) := HH1.out.keep D.t
    have HB0 : Hid (Bd wS g4 B (.slice a1 B.links.length q1) (.slice a3 B.routers.length q3) (.slice a8 B.data.length q8)) := HB1.out.keep D.t
    clear D HH1 HB1 T1 HA1
    obtain ⟨⟨s0, s1, s2, s3, s4, s5, s6, s7⟩, s8⟩ := HS0.out
    go_wp2_with fail
    refine Calls.mono (HCP _ _ AS0.out) ?_
    rintro e wa ⟨xa, xc, rfl, ba⟩
    clear s0 s1 s2 s3 s4 s5 s6 s7 s8
    have HS1 : Hid (Sd wa gs S (.slice ua l.length uc)) := HS0.out.keep ba.t
    have HH1 : Hid (Hd wa g3 h) := HH0.out.keep ba.t
    have HB1 : Hid (Bd wa g4 B (.slice a1 B.links.length q1) (.slice a3 B.routers.length q3) (.slice a8 B.data.length q8)) := HB0.out.keep ba.t
    have TW1 : Hid (Touch (fun _ => False) w wa) := TW0.out.trans ba.t
    have AS1 : Hid (ArgAt wa (.slice ua l.length uc) l) := AS0.out.keepN ba.t
    clear HS0 HH0 HB0 TW0 AS0
    go_wp2_with fail
    refine Calls.mono (HDC _ _ ba.arg) ?_
    rintro e wb ⟨b1, p1, b3, p3, b8, p8, rfl, ob, tb⟩
    clear ba
    have HS2 : Hid (Sd wb gs S (.slice ua l.length uc)) := HS1.out.keep tb
    have HH2 : Hid (Hd wb g3 h) := HH1.out.keep tb
    have HB2 : Hid (Bd wb g4 B (.slice a1 B.links.length q1) (.slice a3 B.routers.length q3) (.slice a8 B.data.length q8)) := HB1.out.keep tb
    have TW2 : Hid (Touch (fun _ => False) w wb) := TW1.out.trans tb
    have AS2 : Hid (ArgAt wb (.slice ua l.length uc) l) := AS1.out.keepN tb
    clear HS1 HH1 HB1 TW1 AS1
    clear tb
    go_upto_region 7 with fail
    have tb : Touch (fun _ => False) wb (wb.alloc (.cells #[.int .u8 B.flags, .slice b1 B.links.length p1, .int .u32 B.mask, .slice b3 B.routers.length p3, .int .u32 B.metric, .bool B.type2, .int .u32 B.fwd, .int .u32 B.tag, .slice b8 B.data.length p8] 30)) := (Touch.refl _ _).alloc _
    have HS3 : Hid (Sd (wb.alloc (.cells #[.int .u8 B.flags, .slice b1 B.links.length p1, .int .u32 B.mask, .slice b3 B.routers.length p3, .int .u32 B.metric, .bool B.type2, .int .u32 B.fwd, .int .u32 B.tag, .slice b8 B.data.length p8] 30)) gs S (.slice ua l.length uc)) := HS2.out.keep tb
    have HH3 : Hid (Hd (wb.alloc (.cells #[.int .u8 B.flags, .slice b1 B.links.length p1, .int .u32 B.mask, .slice b3 B.routers.length p3, .int .u32 B.metric, .bool B.type2, .int .u32 B.fwd, .int .u32 B.tag, .slice b8 B.data.length p8] 30)) g3 h) := HH2.out.keep tb
    have HB3 : Hid (Bd (wb.alloc (.cells #[.int .u8 B.flags, .slice b1 B.links.length p1, .int .u32 B.mask, .slice b3 B.routers.length p3, .int .u32 B.metric, .bool B.type2, .int .u32 B.fwd, .int .u32 B.tag, .slice b8 B.data.length p8] 30)) g4 B (.slice a1 B.links.length q1) (.slice a3 B.routers.length q3) (.slice a8 B.data.length q8)) := HB2.out.keep tb
    have TW3 : Hid (Touch (fun _ => False) w (wb.alloc (.cells #[.int .u8 B.flags, .slice b1 B.links.length p1, .int .u32 B.mask, .slice b3 B.routers.length p3, .int .u32 B.metric, .bool B.type2, .int .u32 B.fwd, .int .u32 B.tag, .slice b8 B.data.length p8] 30))) := TW2.out.trans tb
    have AS3 : Hid (ArgAt (wb.alloc (.cells #[.int .u8 B.flags, .slice b1 B.links.length p1, .int .u32 B.mask, .slice b3 B.routers.length p3, .int .u32 B.metric, .bool B.type2, .int .u32 B.fwd, .int .u32 B.tag, .slice b8 B.data.length p8] 30)) (.slice ua l.length uc) l) := AS2.out.keepN tb
    clear HS2 HH2 HB2 TW2 AS2
    have HC3 : Hid (Bd (wb.alloc (.cells #[.int .u8 B.flags, .slice b1 B.links.length p1, .int .u32 B.mask, .slice b3 B.routers.length p3, .int .u32 B.metric, .bool B.type2, .int .u32 B.fwd, .int .u32 B.tag, .slice b8 B.data.length p8] 30)) wb.heap.size B (.slice b1 B.links.length p1) (.slice b3 B.routers.length p3) (.slice b8 B.data.length p8)) := Bd.new wb B (.slice b1 B.links.length p1) (.slice b3 B.routers.length p3) (.slice b8 B.data.length p8) _
    have XC3 : Hid (BArg (wb.alloc (.cells #[.int .u8 B.flags, .slice b1 B.links.length p1, .int .u32 B.mask, .slice b3 B.routers.length p3, .int .u32 B.metric, .bool B.type2, .int .u32 B.fwd, .int .u32 B.tag, .slice b8 B.data.length p8] 30)) B (.slice b1 B.links.length p1) (.slice b3 B.routers.length p3) (.slice b8 B.data.length p8)) := ob.arg.keep tb
    have RC3 : Hid (RowAt (wb.alloc (.cells #[.int .u8 B.flags, .slice b1 B.links.length p1, .int .u32 B.mask, .slice b3 B.routers.length p3, .int .u32 B.metric, .bool B.type2, .int .u32 B.fwd, .int .u32 B.tag, .slice b8 B.data.length p8] 30)) (.slice b8 B.data.length p8) B.data) := (own_rowAt ob.d).touch tb (fun _ _ h => h)
    clear ob
    clear tb
    generalize (wb.alloc (.cells #[.int .u8 B.flags, .slice b1 B.links.length p1, .int .u32 B.mask, .slice b3 B.routers.length p3, .int .u32 B.metric, .bool B.type2, .int .u32 B.fwd, .int .u32 B.tag, .slice b8 B.data.length p8] 30)) = w7 at *
    generalize wb.heap.size = gc at *
    obtain ⟨c0, c1, c2, c3, c4, c5, c6, c7, c8⟩ := HC3.out
    obtain ⟨d0, d1, d2, d3, d4, d5, d6, d7, d8⟩ := HB3.out
    go_wp2_with fail
    refine Calls.mono (ebody_true B b1 b3 b8 a1 a3 a8 p1 p3 p8 q1 q3 q8 _ XC3.out RC3.out (HA.out.keep TW3.out)) ?_
    rintro e w8 ⟨rfl, t8⟩
    clear c0 c1 c2 c3 c4 c5 c6 c7 c8 d0 d1 d2 d3 d4 d5 d6 d7 d8
    have HS4 : Hid (Sd w8 gs S (.slice ua l.length uc)) := HS3.out.keep t8
    have HH4 : Hid (Hd w8 g3 h) := HH3.out.keep t8
    have HB4 : Hid (Bd w8 g4 B (.slice a1 B.links.length q1) (.slice a3 B.routers.length q3) (.slice a8 B.data.length q8)) := HB3.out.keep t8
    have TW4 : Hid (Touch (fun _ => False) w w8) := TW3.out.trans t8
    have AS4 : Hid (ArgAt w8 (.slice ua l.length uc) l) := AS3.out.keepN t8
    have HC4 : Hid (Bd w8 gc B (.slice b1 B.links.length p1) (.slice b3 B.routers.length p3) (.slice b8 B.data.length p8)) := HC3.out.keep t8
    have XC4 : Hid (BArg w8 B (.slice b1 B.links.length p1) (.slice b3 B.routers.length p3) (.slice b8 B.data.length p8)) := XC3.out.keep t8
    have RC4 : Hid (RowAt w8 (.slice b8 B.data.length p8) B.data) := RC3.out.touch t8 (fun _ _ h => h)
    clear HS3 HH3 HB3 TW3 AS3 HC3 XC3 RC3
    clear t8
    obtain ⟨⟨s0, s1, s2, s3, s4, s5, s6, s7⟩, s8⟩ := HS4.out
    obtain ⟨c0, c1, c2, c3, c4, c5, c6, c7, c8⟩ := HC4.out
    go_wp2_with fail
    refine Calls.mono (HEN b1 b3 b8 p1 p3 p8 _ XC4.out) ?_
    rintro e w9 ⟨ta, tc, rfl, b9⟩
    clear s0 s1 s2 s3 s4 s5 s6 s7 s8 c0 c1 c2 c3 c4 c5 c6 c7 c8
    have HS5 : Hid (Sd w9 gs S (.slice ua l.length uc)) := HS4.out.keep b9.t
    have HH5 : Hid (Hd w9 g3 h) := HH4.out.keep b9.t
    have HB5 : Hid (Bd w9 g4 B (.slice a1 B.links.length q1) (.slice a3 B.routers.length q3) (.slice a8 B.data.length q8)) := HB4.out.keep b9.t
    have TW5 : Hid (Touch (fun _ => False) w w9) := TW4.out.trans b9.t
    have AS5 : Hid (ArgAt w9 (.slice ua l.length uc) l) := AS4.out.keepN b9.t
    have HC5 : Hid (Bd w9 gc B (.slice b1 B.links.length p1) (.slice b3 B.routers.length p3) (.slice b8 B.data.length p8)) := HC4.out.keep b9.t
    have XC5 : Hid (BArg w9 B (.slice b1 B.links.length p1) (.slice b3 B.routers.length p3) (.slice b8 B.data.length p8)) := XC4.out.keep b9.t
    have RC5 : Hid (RowAt w9 (.slice b8 B.data.length p8) B.data) := RC4.out.touch b9.t (fun _ _ h => h)
    clear HS4 HH4 HB4 TW4 AS4 HC4 XC4 RC4
    go_upto_region 10 with fail
    have tb : Touch (fun _ => False) w9 (w9.alloc (.cells #[.int .u16 S.age, .int .u8 S.opts, .int .u8 S.typ, .int .u32 S.id, .int .u32 S.adv, .int .i32 S.seq, .int .u16 S.sum, .int .u16 S.len, .slice ta l.length tc] 34)) := (Touch.refl _ _).alloc _
    have HS6 : Hid (Sd (w9.alloc (.cells #[.int .u16 S.age, .int .u8 S.opts, .int .u8 S.typ, .int .u32 S.id, .int .u32 S.adv, .int .i32 S.seq, .int .u16 S.sum, .int .u16 S.len, .slice ta l.length tc] 34)) gs S (.slice ua l.length uc)) := HS5.out.keep tb
    have HH6 : Hid (Hd (w9.alloc (.cells #[.int .u16 S.age, .int .u8 S.opts, .int .u8 S.typ, .int .u32 S.id, .int .u32 S.adv, .int .i32 S.seq, .int .u16 S.sum, .int .u16 S.len, .slice ta l.length tc] 34)) g3 h) := HH5.out.keep tb
    have HB6 : Hid (Bd (w9.alloc (.cells #[.int .u16 S.age, .int .u8 S.opts, .int .u8 S.typ, .int .u32 S.id, .int .u32 S.adv, .int .i32 S.seq, .int .u16 S.sum, .int .u16 S.len, .slice ta l.length tc] 34)) g4 B (.slice a1 B.links.length q1) (.slice a3 B.routers.length q3) (.slice a8 B.data.length q8)) := HB5.out.keep tb
    have TW6 : Hid (Touch (fun _ => False) w (w9.alloc (.cells #[.int .u16 S.age, .int .u8 S.opts, .int .u8 S.typ, .int .u32 S.id, .int .u32 S.adv, .int .i32 S.seq, .int .u16 S.sum, .int .u16 S.len, .slice ta l.length tc] 34))) := TW5.out.trans tb
    have AS6 : Hid (ArgAt (w9.alloc (.cells #[.int .u16 S.age, .int .u8 S.opts, .int .u8 S.typ, .int .u32 S.id, .int .u32 S.adv, .int .i32 S.seq, .int .u16 S.sum, .int .u16 S.len, .slice ta l.length tc] 34)) (.slice ua l.length uc) l) := AS5.out.keepN tb
    have HC6 : Hid (Bd (w9.alloc (.cells #[.int .u16 S.age, .int .u8 S.opts, .int .u8 S.typ, .int .u32 S.id, .int .u32 S.adv, .int .i32 S.seq, .int .u16 S.sum, .int .u16 S.len, .slice ta l.length tc] 34)) gc B (.slice b1 B.links.length p1) (.slice b3 B.routers.length p3) (.slice b8 B.data.length p8)) := HC5.out.keep tb
    have XC6 : Hid (BArg (w9.alloc (.cells #[.int .u16 S.age, .int .u8 S.opts, .int .u8 S.typ, .int .u32 S.id, .int .u32 S.adv, .int .i32 S.seq, .int .u16 S.sum, .int .u16 S.len, .slice ta l.length tc] 34)) B (.slice b1 B.links.length p1) (.slice b3 B.routers.length p3) (.slice b8 B.data.length p8)) := XC5.out.keep tb
    have RC6 : Hid (RowAt (w9.alloc (.cells #[.int .u16 S.age, .int .u8 S.opts, .int .u8 S.typ, .int .u32 S.id, .int .u32 S.adv, .int .i32 S.seq, .int .u16 S.sum, .int .u16 S.len, .slice ta l.length tc] 34)) (.slice b8 B.data.length p8) B.data) := RC5.out.touch tb (fun _ _ h => h)
    clear HS5 HH5 HB5 TW5 AS5 HC5 XC5 RC5
    have HT6 : Hid (Sd (w9.alloc (.cells #[.int .u16 S.age, .int .u8 S.opts, .int .u8 S.typ, .int .u32 S.id, .int .u32 S.adv, .int .i32 S.seq, .int .u16 S.sum, .int .u16 S.len, .slice ta l.length tc] 34)) w9.heap.size S (.slice ta l.length tc)) := Sd.new w9 S _ _
    have RT6 : Hid (RowAt (w9.alloc (.cells #[.int .u16 S.age, .int .u8 S.opts, .int .u8 S.typ, .int .u32 S.id, .int .u32 S.adv, .int .i32 S.seq, .int .u16 S.sum, .int .u16 S.len, .slice ta l.length tc] 34)) (.slice ta l.length tc) l) := (own_rowAt b9.own).touch tb (fun _ _ h => h)
    clear b9
    clear tb
    generalize (w9.alloc (.cells #[.int .u16 S.age, .int .u8 S.opts, .int .u8 S.typ, .int .u32 S.id, .int .u32 S.adv, .int .i32 S.seq, .int .u16 S.sum, .int .u16 S.len, .slice ta l.length tc] 34)) = w10 at *
    generalize w9.heap.size = gt at *
    obtain ⟨⟨s0, s1, s2, s3, s4, s5, s6, s7⟩, s8⟩ := HS6.out
    go_wp2_with fail
    refine Calls.mono (HCP _ _ AS6.out) ?_
    rintro e wc ⟨ya, yc, rfl, bc⟩
    clear s0 s1 s2 s3 s4 s5 s6 s7 s8
    have HS7 : Hid (Sd wc gs S (.slice ua l.length uc)) := HS6.out.keep bc.t
    have HH7 : Hid (Hd wc g3 h) := HH6.out.keep bc.t
    have HB7 : Hid (Bd wc g4 B (.slice a1 B.links.length q1) (.slice a3 B.routers.length q3) (.slice a8 B.data.length q8)) := HB6.out.keep bc.t
    have TW7 : Hid (Touch (fun _ => False) w wc) := TW6.out.trans bc.t
    have AS7 : Hid (ArgAt wc (.slice ua l.length uc) l) := AS6.out.keepN bc.t
    have HC7 : Hid (Bd wc gc B (.slice b1 B.links.length p1) (.slice b3 B.routers.length p3) (.slice b8 B.data.length p8)) := HC6.out.keep bc.t
    have XC7 : Hid (BArg wc B (.slice b1 B.links.length p1) (.slice b3 B.routers.length p3) (.slice b8 B.data.length p8)) := XC6.out.keep bc.t
    have RC7 : Hid (RowAt wc (.slice b8 B.data.length p8) B.data) := RC6.out.touch bc.t (fun _ _ h => h)
    have HT7 : Hid (Sd wc gt S (.slice ta l.length tc)) := HT6.out.keep bc.t
    have RT7 : Hid (RowAt wc (.slice ta l.length tc) l) := RT6.out.touch bc.t (fun _ _ h => h)
    clear HS6 HH6 HB6 TW6 AS6 HC6 XC6 RC6 HT6 RT6
    go_wp2_with fail
    refine Calls.mono (HSE _ _ bc.arg) ?_
    rintro e wd ⟨va, vc, rfl, bd⟩
    clear bc
    have HS8 : Hid (Sd wd gs S (.slice ua l.length uc)) := HS7.out.keep bd.t
    have HH8 : Hid (Hd wd g3 h) := HH7.out.keep bd.t
    have HB8 : Hid (Bd wd g4 B (.slice a1 B.links.length q1) (.slice a3 B.routers.length q3) (.slice a8 B.data.length q8)) := HB7.out.keep bd.t
    have TW8 : Hid (Touch (fun _ => False) w wd) := TW7.out.trans bd.t
    have AS8 : Hid (ArgAt wd (.slice ua l.length uc) l) := AS7.out.keepN bd.t
    have HC8 : Hid (Bd wd gc B (.slice b1 B.links.length p1) (.slice b3 B.routers.length p3) (.slice b8 B.data.length p8)) := HC7.out.keep bd.t
    have XC8 : Hid (BArg wd B (.slice b1 B.links.length p1) (.slice b3 B.routers.length p3) (.slice b8 B.data.length p8)) := XC7.out.keep bd.t
    have RC8 : Hid (RowAt wd (.slice b8 B.data.length p8) B.data) := RC7.out.touch bd.t (fun _ _ h => h)
    have HT8 : Hid (Sd wd gt S (.slice ta l.length tc)) := HT7.out.keep bd.t
    have RT8 : Hid (RowAt wd (.slice ta l.length tc) l) := RT7.out.touch bd.t (fun _ _ h => h)
    clear HS7 HH7 HB7 TW7 AS7 HC7 XC7 RC7 HT7 RT7
    go_upto_region 11 with fail
    have tb : Touch (fun _ => False) wd (wd.alloc (.cells #[.int .u16 S.age, .int .u8 S.opts, .int .u8 S.typ, .int .u32 S.id, .int .u32 S.adv, .int .i32 S.seq, .int .u16 S.sum, .int .u16 S.len, .slice va l.length vc] 34)) := (Touch.refl _ _).alloc _
    have HS9 : Hid (Sd (wd.alloc (.cells #[.int .u16 S.age, .int .u8 S.opts, .int .u8 S.typ, .int .u32 S.id, .int .u32 S.adv, .int .i32 S.seq, .int .u16 S.sum, .int .u16 S.len, .slice va l.length vc] 34)) gs S (.slice ua l.length uc)) := HS8.out.keep tb
    have HH9 : Hid (Hd (wd.alloc (.cells #[.int .u16 S.age, .int .u8 S.opts, .int .u8 S.typ, .int .u32 S.id, .int .u32 S.adv, .int .i32 S.seq, .int .u16 S.sum, .int .u16 S.len, .slice va l.length vc] 34)) g3 h) := HH8.out.keep tb
    have HB9 : Hid (Bd (wd.alloc (.cells #[.int .u16 S.age, .int .u8 S.opts, .int .u8 S.typ, .int .u32 S.id, .int .u32 S.adv, .int .i32 S.seq, .int .u16 S.sum, .int .u16 S.len, .slice va l.length vc] 34)) g4 B (.slice a1 B.links.length q1) (.slice a3 B.routers.length q3) (.slice a8 B.data.length q8)) := HB8.out.keep tb
    have TW9 : Hid (Touch (fun _ => False) w (wd.alloc (.cells #[.int .u16 S.age, .int .u8 S.opts, .int .u8 S.typ, .int .u32 S.id, .int .u32 S.adv, .int .i32 S.seq, .int .u16 S.sum, .int .u16 S.len, .slice va l.length vc] 34))) := TW8.out.trans tb
    have AS9 : Hid (ArgAt (wd.alloc (.cells #[.int .u16 S.age, .int .u8 S.opts, .int .u8 S.typ, .int .u32 S.id, .int .u32 S.adv, .int .i32 S.seq, .int .u16 S.sum, .int .u16 S.len, .slice va l.length vc] 34)) (.slice ua l.length uc) l) := AS8.out.keepN tb
    have HC9 : Hid (Bd (wd.alloc (.cells #[.int .u16 S.age, .int .u8 S.opts, .int .u8 S.typ, .int .u32 S.id, .int .u32 S.adv, .int .i32 S.seq, .int .u16 S.sum, .int .u16 S.len, .slice va l.length vc] 34)) gc B (.slice b1 B.links.length p1) (.slice b3 B.routers.length p3) (.slice b8 B.data.length p8)) := HC8.out.keep tb
    have XC9 : Hid (BArg (wd.alloc (.cells #[.int .u16 S.age, .int .u8 S.opts, .int .u8 S.typ, .int .u32 S.id, .int .u32 S.adv, .int .i32 S.seq, .int .u16 S.sum, .int .u16 S.len, .slice va l.length vc] 34)) B (.slice b1 B.links.length p1) (.slice b3 B.routers.length p3) (.slice b8 B.data.length p8)) := XC8.out.keep tb
    have RC9 : Hid (RowAt (wd.alloc (.cells #[.int .u16 S.age, .int .u8 S.opts, .int .u8 S.typ, .int .u32 S.id, .int .u32 S.adv, .int .i32 S.seq, .int .u16 S.sum, .int .u16 S.len, .slice va l.length vc] 34)) (.slice b8 B.data.length p8) B.data) := RC8.out.touch tb (fun _ _ h => h)
    have HT9 : Hid (Sd (wd.alloc (.cells #[.int .u16 S.age, .int .u8 S.opts, .int .u8 S.typ, .int .u32 S.id, .int .u32 S.adv, .int .i32 S.seq, .int .u16 S.sum, .int .u16 S.len, .slice va l.length vc] 34)) gt S (.slice ta l.length tc)) := HT8.out.keep tb
    have RT9 : Hid (RowAt (wd.alloc (.cells #[.int .u16 S.age, .int .u8 S.opts, .int .u8 S.typ, .int .u32 S.id, .int .u32 S.adv, .int .i32 S.seq, .int .u16 S.sum, .int .u16 S.len, .slice va l.length vc] 34)) (.slice ta l.length tc) l) := RT8.out.touch tb (fun _ _ h => h)
    clear HS8 HH8 HB8 TW8 AS8 HC8 XC8 RC8 HT8 RT8
    have HU9 : Hid (Sd (wd.alloc (.cells #[.int .u16 S.age, .int .u8 S.opts, .int .u8 S.typ, .int .u32 S.id, .int .u32 S.adv, .int .i32 S.seq, .int .u16 S.sum, .int .u16 S.len, .slice va l.length vc] 34)) wd.heap.size S (.slice va l.length vc)) := Sd.new wd S _ _
    have RU9 : Hid (RowAt (wd.alloc (.cells #[.int .u16 S.age, .int .u8 S.opts, .int .u8 S.typ, .int .u32 S.id, .int .u32 S.adv, .int .i32 S.seq, .int .u16 S.sum, .int .u16 S.len, .slice va l.length vc] 34)) (.slice va l.length vc) l) := (own_rowAt bd.own).touch tb (fun _ _ h => h)
    clear bd
    clear tb
    generalize (wd.alloc (.cells #[.int .u16 S.age, .int .u8 S.opts, .int .u8 S.typ, .int .u32 S.id, .int .u32 S.adv, .int .i32 S.seq, .int .u16 S.sum, .int .u16 S.len, .slice va l.length vc] 34)) = w11 at *
    generalize wd.heap.size = gu at *
    obtain ⟨⟨t0, t1, t2, t3, t4, t5, t6, t7⟩, t8⟩ := HT9.out
    obtain ⟨⟨s0, s1, s2, s3, s4, s5, s6, s7⟩, s8⟩ := HS9.out
    go_wp2_with fail
    refine Calls.mono (HEQ _ _ _ RT9.out AS9.out) ?_
    rintro e w12 ⟨rfl, tq⟩
    clear t0 t1 t2 t3 t4 t5 t6 t7 t8 s0 s1 s2 s3 s4 s5 s6 s7 s8
    have HS10 : Hid (Sd w12 gs S (.slice ua l.length uc)) := HS9.out.keep tq
    have HH10 : Hid (Hd w12 g3 h) := HH9.out.keep tq
    have HB10 : Hid (Bd w12 g4 B (.slice a1 B.links.length q1) (.slice a3 B.routers.length q3) (.slice a8 B.data.length q8)) := HB9.out.keep tq
    have TW10 : Hid (Touch (fun _ => False) w w12) := TW9.out.trans tq
    have AS10 : Hid (ArgAt w12 (.slice ua l.length uc) l) := AS9.out.keepN tq
    have HC10 : Hid (Bd w12 gc B (.slice b1 B.links.length p1) (.slice b3 B.routers.length p3) (.slice b8 B.data.length p8)) := HC9.out.keep tq
    have XC10 : Hid (BArg w12 B (.slice b1 B.links.length p1) (.slice b3 B.routers.length p3) (.slice b8 B.data.length p8)) := XC9.out.keep tq
    have RC10 : Hid (RowAt w12 (.slice b8 B.data.length p8) B.data) := RC9.out.touch tq (fun _ _ h => h)
    have HT10 : Hid (Sd w12 gt S (.slice ta l.length tc)) := HT9.out.keep tq
    have RT10 : Hid (RowAt w12 (.slice ta l.length tc) l) := RT9.out.touch tq (fun _ _ h => h)
    have HU10 : Hid (Sd w12 gu S (.slice va l.length vc)) := HU9.out.keep tq
    have RU10 : Hid (RowAt w12 (.slice va l.length vc) l) := RU9.out.touch tq (fun _ _ h => h)
    clear HS9 HH9 HB9 TW9 AS9 HC9 XC9 RC9 HT9 RT9 HU9 RU9
    clear tq
    obtain ⟨⟨u0, u1, u2, u3, u4, u5, u6, u7⟩, u8⟩ := HU10.out
    obtain ⟨⟨s0, s1, s2, s3, s4, s5, s6, s7⟩, s8⟩ := HS10.out
    go_wp2_with fail
    refine Calls.mono (HEQ _ _ _ RU10.out AS10.out) ?_
    rintro e w13 ⟨rfl, tq⟩
    clear u0 u1 u2 u3 u4 u5 u6 u7 u8 s0 s1 s2 s3 s4 s5 s6 s7 s8
    have HS11 : Hid (Sd w13 gs S (.slice ua l.length uc)) := HS10.out.keep tq
    have HH11 : Hid (Hd w13 g3 h) := HH10.out.keep tq
    have HB11 : Hid (Bd w13 g4 B (.slice a1 B.links.length q1) (.slice a3 B.routers.length q3) (.slice a8 B.data.length q8)) := HB10.out.keep tq
    have TW11 : Hid (Touch (fun _ => False) w w13) := TW10.out.trans tq
    have AS11 : Hid (ArgAt w13 (.slice ua l.length uc) l) := AS10.out.keepN tq
    have HC11 : Hid (Bd w13 gc B (.slice b1 B.links.length p1) (.slice b3 B.routers.length p3) (.slice b8 B.data.length p8)) := HC10.out.keep tq
    have XC11 : Hid (BArg w13 B (.slice b1 B.links.length p1) (.slice b3 B.routers.length p3) (.slice b8 B.data.length p8)) := XC10.out.keep tq
    have RC11 : Hid (RowAt w13 (.slice b8 B.data.length p8) B.data) := RC10.out.touch tq (fun _ _ h => h)
    have HT11 : Hid (Sd w13 gt S (.slice ta l.length tc)) := HT10.out.keep tq
    have RT11 : Hid (RowAt w13 (.slice ta l.length tc) l) := RT10.out.touch tq (fun _ _ h => h)
    have HU11 : Hid (Sd w13 gu S (.slice va l.length vc)) := HU10.out.keep tq
    have RU11 : Hid (RowAt w13 (.slice va l.length vc) l) := RU10.out.touch tq (fun _ _ h => h)
    clear HS10 HH10 HB10 TW10 AS10 HC10 XC10 RC10 HT10 RT10 HU10 RU10
    clear tq
    have m5 := HH11.out.c5
    obtain ⟨⟨s0, s1, s2, s3, s4, s5, s6, s7⟩, s8⟩ := HS11.out
    go_wp2_with fail
    refine Calls.mono (HCP _ _ AS11.out) ?_
    rintro e we ⟨za, zc, rfl, be⟩
    clear s0 s1 s2 s3 s4 s5 s6 s7 s8 m5
    have HS12 : Hid (Sd we gs S (.slice ua l.length uc)) := HS11.out.keep be.t
    have HH12 : Hid (Hd we g3 h) := HH11.out.keep be.t
    have HB12 : Hid (Bd we g4 B (.slice a1 B.links.length q1) (.slice a3 B.routers.length q3) (.slice a8 B.data.length q8)) := HB11.out.keep be.t
    have TW12 : Hid (Touch (fun _ => False) w we) := TW11.out.trans be.t
    have AS12 : Hid (ArgAt we (.slice ua l.length uc) l) := AS11.out.keepN be.t
    have HC12 : Hid (Bd we gc B (.slice b1 B.links.length p1) (.slice b3 B.routers.length p3) (.slice b8 B.data.length p8)) := HC11.out.keep be.t
    have XC12 : Hid (BArg we B (.slice b1 B.links.length p1) (.slice b3 B.routers.length p3) (.slice b8 B.data.length p8)) := XC11.out.keep be.t
    have RC12 : Hid (RowAt we (.slice b8 B.data.length p8) B.data) := RC11.out.touch be.t (fun _ _ h => h)
    have HT12 : Hid (Sd we gt S (.slice ta l.length tc)) := HT11.out.keep be.t
    have RT12 : Hid (RowAt we (.slice ta l.length tc) l) := RT11.out.touch be.t (fun _ _ h => h)
    have HU12 : Hid (Sd we gu S (.slice va l.length vc)) := HU11.out.keep be.t
    have RU12 : Hid (RowAt we (.slice va l.length vc) l) := RU11.out.touch be.t (fun _ _ h => h)
    clear HS11 HH11 HB11 TW11 AS11 HC11 XC11 RC11 HT11 RT11 HU11 RU11
    go_upto_region 16 with fail
    have tb : Touch (fun _ => False) we (we.alloc (.cells #[.int .u16 age, .int .u8 S.opts, .int .u8 S.typ, .int .u32 S.id, .int .u32 S.adv, .int .i32 S.seq, .int .u16 S.sum, .int .u16 S.len, .slice za l.length zc] 34)) := (Touch.refl _ _).alloc _
    have HS13 : Hid (Sd (we.alloc (.cells #[.int .u16 age, .int .u8 S.opts, .int .u8 S.typ, .int .u32 S.id, .int .u32 S.adv, .int .i32 S.seq, .int .u16 S.sum, .int .u16 S.len, .slice za l.length zc] 34)) gs S (.slice ua l.length uc)) := HS12.out.keep tb
    have HH13 : Hid (Hd (we.alloc (.cells #[.int .u16 age, .int .u8 S.opts, .int .u8 S.typ, .int .u32 S.id, .int .u32 S.adv, .int .i32 S.seq, .int .u16 S.sum, .int .u16 S.len, .slice za l.length zc] 34)) g3 h) := HH12.out.keep tb
    have HB13 : Hid (Bd (we.alloc (.cells #[.int .u16 age, .int .u8 S.opts, .int .u8 S.typ, .int .u32 S.id, .int .u32 S.adv, .int .i32 S.seq, .int .u16 S.sum, .int .u16 S.len, .slice za l.length zc] 34)) g4 B (.slice a1 B.links.length q1) (.slice a3 B.routers.length q3) (.slice a8 B.data.length q8)) := HB12.out.keep tb
    have TW13 : Hid (Touch (fun _ => False) w (we.alloc (.cells #[.int .u16 age, .int .u8 S.opts, .int .u8 S.typ, .int .u32 S.id, .int .u32 S.adv, .int .i32 S.seq, .int .u16 S.sum, .int .u16 S.len, .slice za l.length zc] 34))) := TW12.out.trans tb
    have AS13 : Hid (ArgAt (we.alloc (.cells #[.int .u16 age, .int .u8 S.opts, .int .u8 S.typ, .int .u32 S.id, .int .u32 S.adv, .int .i32 S.seq, .int .u16 S.sum, .int .u16 S.len, .slice za l.length zc] 34)) (.slice ua l.length uc) l) := AS12.out.keepN tb
    have HC13 : Hid (Bd (we.alloc (.cells #[.int .u16 age, .int .u8 S.opts, .int .u8 S.typ, .int .u32 S.id, .int .u32 S.adv, .int .i32 S.seq, .int .u16 S.sum, .int .u16 S.len, .slice za l.length zc] 34)) gc B (.slice b1 B.links.length p1) (.slice b3 B.routers.length p3) (.slice b8 B.data.length p8)) := HC12.out.keep tb
    have XC13 : Hid (BArg (we.alloc (.cells #[.int .u16 age, .int .u8 S.opts, .int .u8 S.typ, .int .u32 S.id, .int .u32 S.adv, .int .i32 S.seq, .int .u16 S.sum, .int .u16 S.len, .slice za l.length zc] 34)) B (.slice b1 B.links.length p1) (.slice b3 B.routers.length p3) (.slice b8 B.data.length p8)) := XC12.out.keep tb
    have RC13 : Hid (RowAt (we.alloc (.cells #[.int .u16 age, .int .u8 S.opts, .int .u8 S.typ, .int .u32 S.id, .int .u32 S.adv, .int .i32 S.seq, .int .u16 S.sum, .int .u16 S.len, .slice za l.length zc] 34)) (.slice b8 B.data.length p8) B.data) := RC12.out.touch tb (fun _ _ h => h)
    have HT13 : Hid (Sd (we.alloc (.cells #[.int .u16 age, .int .u8 S.opts, .int .u8 S.typ, .int .u32 S.id, .int .u32 S.adv, .int .i32 S.seq, .int .u16 S.sum, .int .u16 S.len, .slice za l.length zc] 34)) gt S (.slice ta l.length tc)) := HT12.out.keep tb
    have RT13 : Hid (RowAt (we.alloc (.cells #[.int .u16 age, .int .u8 S.opts, .int .u8 S.typ, .int .u32 S.id, .int .u32 S.adv, .int .i32 S.seq, .int .u16 S.sum, .int .u16 S.len, .slice za l.length zc] 34)) (.slice ta l.length tc) l) := RT12.out.touch tb (fun _ _ h => h)
    have HU13 : Hid (Sd (we.alloc (.cells #[.int .u16 age, .int .u8 S.opts, .int .u8 S.typ, .int .u32 S.id, .int .u32 S.adv, .int .i32 S.seq, .int .u16 S.sum, .int .u16 S.len, .slice za l.length zc] 34)) gu S (.slice va l.length vc)) := HU12.out.keep tb
    have RU13 : Hid (RowAt (we.alloc (.cells #[.int .u16 age, .int .u8 S.opts, .int .u8 S.typ, .int .u32 S.id, .int .u32 S.adv, .int .i32 S.seq, .int .u16 S.sum, .int .u16 S.len, .slice za l.length zc] 34)) (.slice va l.length vc) l) := RU12.out.touch tb (fun _ _ h => h)
    clear HS12 HH12 HB12 TW12 AS12 HC12 XC12 RC12 HT12 RT12 HU12 RU12
    have HO13 : Hid (Sd (we.alloc (.cells #[.int .u16 age, .int .u8 S.opts, .int .u8 S.typ, .int .u32 S.id, .int .u32 S.adv, .int .i32 S.seq, .int .u16 S.sum, .int .u16 S.len, .slice za l.length zc] 34)) we.heap.size { S with age := age } (.slice za l.length zc)) := Sd.new we { S with age := age } _ _
    have AO13 : Hid (ArgAt (we.alloc (.cells #[.int .u16 age, .int .u8 S.opts, .int .u8 S.typ, .int .u32 S.id, .int .u32 S.adv, .int .i32 S.seq, .int .u16 S.sum, .int .u16 S.len, .slice za l.length zc] 34)) (.slice za l.length zc) l) := be.arg.keepN tb
    clear be
    clear tb
    generalize (we.alloc (.cells #[.int .u16 age, .int .u8 S.opts, .int .u8 S.typ, .int .u32 S.id, .int .u32 S.adv, .int .i32 S.seq, .int .u16 S.sum, .int .u16 S.len, .slice za l.length zc] 34)) = w14 at *
    generalize we.heap.size = go at *
    obtain ⟨⟨o0, o1, o2, o3, o4, o5, o6, o7⟩, o8⟩ := HO13.out
    dsimp only at o0 o1 o2 o3 o4 o5 o6 o7
    go_wp2_with fail
    refine Calls.mono (HCK _ _ AO13.out) ?_
    rintro e w15 ⟨rfl, tq⟩
    clear o0 o1 o2 o3 o4 o5 o6 o7 o8
    have HS14 : Hid (Sd w15 gs S (.slice ua l.length uc)) := HS13.out.keep tq
    have TW14 : Hid (Touch (fun _ => False) w w15) := TW13.out.trans tq
    have AS14 : Hid (ArgAt w15 (.slice ua l.length uc) l) := AS13.out.keepN tq
    clear HS13 TW13 AS13
    clear tq
    have hb0 := hage.1
    have hb1 := hage.2
    have HAND : Hid (bits BinOp.and .u16 age 32767 = bits BinOp.andNot .u16 age 32768) := by show _ = _; rw [u16_and age _ hb0 hb1 (by omega) (by omega), u16_andNot age _ hb0 hb1 (by omega) (by omega)]; rfl
    by_cases hq : h.seq = -2147483648
    · have hqb : (h.seq != -2147483648) = false := by rw [hq]; rfl
      rw [show chkJ h age = 24 from if_pos (Or.inl hq)]
      clear hq
      obtain ⟨⟨s0, s1, s2, s3, s4, s5, s6, s7⟩, s8⟩ := HS14.out
      go_wp2_with fail
      refine Calls.mono (HCP _ _ AS14.out) ?_
      rintro e wf ⟨fa, fc, rfl, bf⟩
      clear s0 s1 s2 s3 s4 s5 s6 s7 s8
      have HS15 : Hid (Sd wf gs S (.slice ua l.length uc)) := HS14.out.keep bf.t
      have TW15 : Hid (Touch (fun _ => False) w wf) := TW14.out.trans bf.t
      have AS15 : Hid (ArgAt wf (.slice ua l.length uc) l) := AS14.out.keepN bf.t
      clear HS14 TW14 AS14
      go_wp2_with fail
      refine Calls.mono (HBY _ _ bf.arg) ?_
      rintro e wg ⟨ga, gc2, rfl, ag, tg⟩
      clear bf
      have HS16 : Hid (Sd wg gs S (.slice ua l.length uc)) := HS15.out.keep tg
      have TW16 : Hid (Touch (fun _ => False) w wg) := TW15.out.trans tg
      have AS16 : Hid (ArgAt wg (.slice ua l.length uc) l) := AS15.out.keepN tg
      clear HS15 TW15 AS15
      go_wp2_with fail
      refine Calls.mono (HRD _ _ ag) ?_
      rintro e wh ⟨ha, hc, rfl, bh⟩
      clear ag tg
      have HS17 : Hid (Sd wh gs S (.slice ua l.length uc)) := HS16.out.keep bh.t
      have TW17 : Hid (Touch (fun _ => False) w wh) := TW16.out.trans bh.t
      have AS17 : Hid (ArgAt wh (.slice ua l.length uc) l) := AS16.out.keepN bh.t
      clear HS16 TW16 AS16
      go_upto_region 20 with fail
      have tb : Touch (fun _ => False) wh (wh.alloc (.cells #[.int .u16 S.age, .int .u8 S.opts, .int .u8 S.typ, .int .u32 S.id, .int .u32 S.adv, .int .i32 S.seq, .int .u16 S.sum, .int .u16 S.len, .slice ha l.length hc] 34)) := (Touch.refl _ _).alloc _
      have HS18 : Hid (Sd (wh.alloc (.cells #[.int .u16 S.age, .int .u8 S.opts, .int .u8 S.typ, .int .u32 S.id, .int .u32 S.adv, .int .i32 S.seq, .int .u16 S.sum, .int .u16 S.len, .slice ha l.length hc] 34)) gs S (.slice ua l.length uc)) := HS17.out.keep tb
      have TW18 : Hid (Touch (fun _ => False) w (wh.alloc (.cells #[.int .u16 S.age, .int .u8 S.opts, .int .u8 S.typ, .int .u32 S.id, .int .u32 S.adv, .int .i32 S.seq, .int .u16 S.sum, .int .u16 S.len, .slice ha l.length hc] 34))) := TW17.out.trans tb
      have AS18 : Hid (ArgAt (wh.alloc (.cells #[.int .u16 S.age, .int .u8 S.opts, .int .u8 S.typ, .int .u32 S.id, .int .u32 S.adv, .int .i32 S.seq, .int .u16 S.sum, .int .u16 S.len, .slice ha l.length hc] 34)) (.slice ua l.length uc) l) := AS17.out.keepN tb
      clear HS17 TW17 AS17
      have HX18 : Hid (Sd (wh.alloc (.cells #[.int .u16 S.age, .int .u8 S.opts, .int .u8 S.typ, .int .u32 S.id, .int .u32 S.adv, .int .i32 S.seq, .int .u16 S.sum, .int .u16 S.len, .slice ha l.length hc] 34)) wh.heap.size S (.slice ha l.length hc)) := Sd.new wh S _ _
      have RX18 : Hid (RowAt (wh.alloc (.cells #[.int .u16 S.age, .int .u8 S.opts, .int .u8 S.typ, .int .u32 S.id, .int .u32 S.adv, .int .i32 S.seq, .int .u16 S.sum, .int .u16 S.len, .slice ha l.length hc] 34)) (.slice ha l.length hc) l) := (own_rowAt bh.own).touch tb (fun _ _ h => h)
      clear bh
      clear tb
      generalize (wh.alloc (.cells #[.int .u16 S.age, .int .u8 S.opts, .int .u8 S.typ, .int .u32 S.id, .int .u32 S.adv, .int .i32 S.seq, .int .u16 S.sum, .int .u16 S.len, .slice ha l.length hc] 34)) = w20 at *
      generalize wh.heap.size = gx at *
      obtain ⟨⟨x0, x1, x2, x3, x4, x5, x6, x7⟩, x8⟩ := HX18.out
      obtain ⟨⟨s0, s1, s2, s3, s4, s5, s6, s7⟩, s8⟩ := HS18.out
      go_wp2_with fail
      refine Calls.mono (HEQ _ _ _ RX18.out AS18.out) ?_
      rintro e w21 ⟨rfl, tq⟩
      clear x0 x1 x2 x3 x4 x5 x6 x7 x8 s0 s1 s2 s3 s4 s5 s6 s7 s8
      have HS19 : Hid (Sd w21 gs S (.slice ua l.length uc)) := HS18.out.keep tq
      have TW19 : Hid (Touch (fun _ => False) w w21) := TW18.out.trans tq
      have AS19 : Hid (ArgAt w21 (.slice ua l.length uc) l) := AS18.out.keepN tq
      have HX19 : Hid (Sd w21 gx S (.slice ha l.length hc)) := HX18.out.keep tq
      have RX19 : Hid (RowAt w21 (.slice ha l.length hc) l) := RX18.out.touch tq (fun _ _ h => h)
      clear HS18 TW18 AS18 HX18 RX18
      clear tq
      go_wp2_with fail
      refine Calls.mono (lives6 _) ?_
      rintro e wv ⟨rfl, tv⟩
      go_wp2
      go_ret
      exact ⟨rfl, TW19.out.trans tv⟩
    · have hqb : (h.seq != -2147483648) = true := by simpa using hq
      by_cases hz : bits BinOp.andNot .u16 age 32768 ≤ 3600
      · rw [show chkJ h age = 0 from if_neg (by rintro (q | q); exact hq q; exact q hz)]
        have hz2 : bits BinOp.and .u16 age 32767 ≤ 3600 := by rw [HAND.out]; exact hz
        clear hq hz
        obtain ⟨⟨s0, s1, s2, s3, s4, s5, s6, s7⟩, s8⟩ := HS14.out
        go_wp2_with fail
        refine Calls.mono (HCP _ _ AS14.out) ?_
        rintro e wf ⟨fa, fc, rfl, bf⟩
        clear s0 s1 s2 s3 s4 s5 s6 s7 s8
        have HS15 : Hid (Sd wf gs S (.slice ua l.length uc)) := HS14.out.keep bf.t
        have TW15 : Hid (Touch (fun _ => False) w wf) := TW14.out.trans bf.t
        have AS15 : Hid (ArgAt wf (.slice ua l.length uc) l) := AS14.out.keepN bf.t
        clear HS14 TW14 AS14
        go_wp2_with fail
        refine Calls.mono (HBY _ _ bf.arg) ?_
        rintro e wg ⟨ga, gc2, rfl, ag, tg⟩
        clear bf
        have HS16 : Hid (Sd wg gs S (.slice ua l.length uc)) := HS15.out.keep tg
        have TW16 : Hid (Touch (fun _ => False) w wg) := TW15.out.trans tg
        have AS16 : Hid (ArgAt wg (.slice ua l.length uc) l) := AS15.out.keepN tg
        clear HS15 TW15 AS15
        go_wp2_with fail
        refine Calls.mono (HRD _ _ ag) ?_
        rintro e wh ⟨ha, hc, rfl, bh⟩
        clear ag tg
        have HS17 : Hid (Sd wh gs S (.slice ua l.length uc)) := HS16.out.keep bh.t
        have TW17 : Hid (Touch (fun _ => False) w wh) := TW16.out.trans bh.t
        have AS17 : Hid (ArgAt wh (.slice ua l.length uc) l) := AS16.out.keepN bh.t
        clear HS16 TW16 AS16
        go_upto_region 20 with fail
        have tb : Touch (fun _ => False) wh (wh.alloc (.cells #[.int .u16 S.age, .int .u8 S.opts, .int .u8 S.typ, .int .u32 S.id, .int .u32 S.adv, .int .i32 S.seq, .int .u16 S.sum, .int .u16 S.len, .slice ha l.length hc] 34)) := (Touch.refl _ _).alloc _
        have HS18 : Hid (Sd (wh.alloc (.cells #[.int .u16 S.age, .int .u8 S.opts, .int .u8 S.typ, .int .u32 S.id, .int .u32 S.adv, .int .i32 S.seq, .int .u16 S.sum, .int .u16 S.len, .slice ha l.length hc] 34)) gs S (.slice ua l.length uc)) := HS17.out.keep tb
        have TW18 : Hid (Touch (fun _ => False) w (wh.alloc (.cells #[.int .u16 S.age, .int .u8 S.opts, .int .u8 S.typ, .int .u32 S.id, .int .u32 S.adv, .int .i32 S.seq, .int .u16 S.sum, .int .u16 S.len, .slice ha l.length hc] 34))) := TW17.out.trans tb
        have AS18 : Hid (ArgAt (wh.alloc (.cells #[.int .u16 S.age, .int .u8 S.opts, .int .u8 S.typ, .int .u32 S.id, .int .u32 S.adv, .int .i32 S.seq, .int .u16 S.sum, .int .u16 S.len, .slice ha l.length hc] 34)) (.slice ua l.length uc) l) := AS17.out.keepN tb
        clear HS17 TW17 AS17
        have HX18 : Hid (Sd (wh.alloc (.cells #[.int .u16 S.age, .int .u8 S.opts, .int .u8 S.typ, .int .u32 S.id, .int .u32 S.adv, .int .i32 S.seq, .int .u16 S.sum, .int .u16 S.len, .slice ha l.length hc] 34)) wh.heap.size S (.slice ha l.length hc)) := Sd.new wh S _ _
        have RX18 : Hid (RowAt (wh.alloc (.cells #[.int .u16 S.age, .int .u8 S.opts, .int .u8 S.typ, .int .u32 S.id, .int .u32 S.adv, .int .i32 S.seq, .int .u16 S.sum, .int .u16 S.len, .slice ha l.length hc] 34)) (.slice ha l.length hc) l) := (own_rowAt bh.own).touch tb (fun _ _ h => h)
        clear bh
        clear tb
        generalize (wh.alloc (.cells #[.int .u16 S.age, .int .u8 S.opts, .int .u8 S.typ, .int .u32 S.id, .int .u32 S.adv, .int .i32 S.seq, .int .u16 S.sum, .int .u16 S.len, .slice ha l.length hc] 34)) = w20 at *
        generalize wh.heap.size = gx at *
        obtain ⟨⟨x0, x1, x2, x3, x4, x5, x6, x7⟩, x8⟩ := HX18.out
        obtain ⟨⟨s0, s1, s2, s3, s4, s5, s6, s7⟩, s8⟩ := HS18.out
        go_wp2_with fail
        refine Calls.mono (HEQ _ _ _ RX18.out AS18.out) ?_
        rintro e w21 ⟨rfl, tq⟩
        clear x0 x1 x2 x3 x4 x5 x6 x7 x8 s0 s1 s2 s3 s4 s5 s6 s7 s8
        have HS19 : Hid (Sd w21 gs S (.slice ua l.length uc)) := HS18.out.keep tq
        have TW19 : Hid (Touch (fun _ => False) w w21) := TW18.out.trans tq
        have AS19 : Hid (ArgAt w21 (.slice ua l.length uc) l) := AS18.out.keepN tq
        have HX19 : Hid (Sd w21 gx S (.slice ha l.length hc)) := HX18.out.keep tq
        have RX19 : Hid (RowAt w21 (.slice ha l.length hc) l) := RX18.out.touch tq (fun _ _ h => h)
        clear HS18 TW18 AS18 HX18 RX18
        clear tq
        go_wp2_with fail
        refine Calls.mono (lives6 _) ?_
        rintro e wv ⟨rfl, tv⟩
        go_wp2
        go_ret
        exact ⟨rfl, TW19.out.trans tv⟩
      · rw [show chkJ h age = 24 from if_pos (Or.inr hz)]
        have hz2 : ¬ bits BinOp.and .u16 age 32767 ≤ 3600 := by rw [HAND.out]; exact hz
        clear hq hz
        obtain ⟨⟨s0, s1, s2, s3, s4, s5, s6, s7⟩, s8⟩ := HS14.out
        go_wp2_with fail
        refine Calls.mono (HCP _ _ AS14.out) ?_
        rintro e wf ⟨fa, fc, rfl, bf⟩
        clear s0 s1 s2 s3 s4 s5 s6 s7 s8
        have HS15 : Hid (Sd wf gs S (.slice ua l.length uc)) := HS14.out.keep bf.t
        have TW15 : Hid (Touch (fun _ => False) w wf) := TW14.out.trans bf.t
        have AS15 : Hid (ArgAt wf (.slice ua l.length uc) l) := AS14.out.keepN bf.t
        clear HS14 TW14 AS14
        go_wp2_with fail
        refine Calls.mono (HBY _ _ bf.arg) ?_
        rintro e wg ⟨ga, gc2, rfl, ag, tg⟩
        clear bf
        have HS16 : Hid (Sd wg gs S (.slice ua l.length uc)) := HS15.out.keep tg
        have TW16 : Hid (Touch (fun _ => False) w wg) := TW15.out.trans tg
        have AS16 : Hid (ArgAt wg (.slice ua l.length uc) l) := AS15.out.keepN tg
        clear HS15 TW15 AS15
        go_wp2_with fail
        refine Calls.mono (HRD _ _ ag) ?_
        rintro e wh ⟨ha, hc, rfl, bh⟩
        clear ag tg
        have HS17 : Hid (Sd wh gs S (.slice ua l.length uc)) := HS16.out.keep bh.t
        have TW17 : Hid (Touch (fun _ => False) w wh) := TW16.out.trans bh.t
        have AS17 : Hid (ArgAt wh (.slice ua l.length uc) l) := AS16.out.keepN bh.t
        clear HS16 TW16 AS16
        go_upto_region 20 with fail
        have tb : Touch (fun _ => False) wh (wh.alloc (.cells #[.int .u16 S.age, .int .u8 S.opts, .int .u8 S.typ, .int .u32 S.id, .int .u32 S.adv, .int .i32 S.seq, .int .u16 S.sum, .int .u16 S.len, .slice ha l.length hc] 34)) := (Touch.refl _ _).alloc _
        have HS18 : Hid (Sd (wh.alloc (.cells #[.int .u16 S.age, .int .u8 S.opts, .int .u8 S.typ, .int .u32 S.id, .int .u32 S.adv, .int .i32 S.seq, .int .u16 S.sum, .int .u16 S.len, .slice ha l.length hc] 34)) gs S (.slice ua l.length uc)) := HS17.out.keep tb
        have TW18 : Hid (Touch (fun _ => False) w (wh.alloc (.cells #[.int .u16 S.age, .int .u8 S.opts, .int .u8 S.typ, .int .u32 S.id, .int .u32 S.adv, .int .i32 S.seq, .int .u16 S.sum, .int .u16 S.len, .slice ha l.length hc] 34))) := TW17.out.trans tb
        have AS18 : Hid (ArgAt (wh.alloc (.cells #[.int .u16 S.age, .int .u8 S.opts, .int .u8 S.typ, .int .u32 S.id, .int .u32 S.adv, .int .i32 S.seq, .int .u16 S.sum, .int .u16 S.len, .slice ha l.length hc] 34)) (.slice ua l.length uc) l) := AS17.out.keepN tb
        clear HS17 TW17 AS17
        have HX18 : Hid (Sd (wh.alloc (.cells #[.int .u16 S.age, .int .u8 S.opts, .int .u8 S.typ, .int .u32 S.id, .int .u32 S.adv, .int .i32 S.seq, .int .u16 S.sum, .int .u16 S.len, .slice ha l.length hc] 34)) wh.heap.size S (.slice ha l.length hc)) := Sd.new wh S _ _
        have RX18 : Hid (RowAt (wh.alloc (.cells #[.int .u16 S.age, .int .u8 S.opts, .int .u8 S.typ, .int .u32 S.id, .int .u32 S.adv, .int .i32 S.seq, .int .u16 S.sum, .int .u16 S.len, .slice ha l.length hc] 34)) (.slice ha l.length hc) l) := (own_rowAt bh.own).touch tb (fun _ _ h => h)
        clear bh
        clear tb
        generalize (wh.alloc (.cells #[.int .u16 S.age, .int .u8 S.opts, .int .u8 S.typ, .int .u32 S.id, .int .u32 S.adv, .int .i32 S.seq, .int .u16 S.sum, .int .u16 S.len, .slice ha l.length hc] 34)) = w20 at *
        generalize wh.heap.size = gx at *
        obtain ⟨⟨x0, x1, x2, x3, x4, x5, x6, x7⟩, x8⟩ := HX18.out
        obtain ⟨⟨s0, s1, s2, s3, s4, s5, s6, s7⟩, s8⟩ := HS18.out
        go_wp2_with fail
        refine Calls.mono (HEQ _ _ _ RX18.out AS18.out) ?_
        rintro e w21 ⟨rfl, tq⟩
        clear x0 x1 x2 x3 x4 x5 x6 x7 x8 s0 s1 s2 s3 s4 s5 s6 s7 s8
        have HS19 : Hid (Sd w21 gs S (.slice ua l.length uc)) := HS18.out.keep tq
        have TW19 : Hid (Touch (fun _ => False) w w21) := TW18.out.trans tq
        have AS19 : Hid (ArgAt w21 (.slice ua l.length uc) l) := AS18.out.keepN tq
        have HX19 : Hid (Sd w21 gx S (.slice ha l.length hc)) := HX18.out.keep tq
        have RX19 : Hid (RowAt w21 (.slice ha l.length hc) l) := RX18.out.touch tq (fun _ _ h => h)
        clear HS18 TW18 AS18 HX18 RX18
        clear tq
        go_wp2_with fail
        refine Calls.mono (lives6 _) ?_
        rintro e wv ⟨rfl, tv⟩
        go_wp2
        go_ret
        exact ⟨rfl, TW19.out.trans tv⟩
end Go.Proofs.Ytfdpmlogieaiaaa
