
/- packet: what is sent again. -/
import Derived.Test.YtedolfggbgmklaaSpIter
import Derived.Test.YtedolfggbgmklaaSpRnd
import Derived.Maps.AppendAt
namespace Go.Proofs.Ytedolfggbgmklaa
open Go.RowKit Go.Shelf
set_option linter.unusedVariables false
set_option maxRecDepth 100000
attribute [local go_sem] Oper.semAt_some

theorem touchK_b {G : Nat → Prop} {w : World} (hG : ∀ k, w.heap.size ≤ k → G k) : ∀ (W : World) (l : Nat) (o o' : Obj), w.heap.size ≤ l → W.heap[l]? = some o → o.isCells = false → o.isWalk = false → Touch G W (W.putObj l o') :=
  fun W l o o' hl _ _ _ => (Touch.refl G W).grown (grownBy_putObj' W l o') (fun k hk => by cases hk; exact Or.inl (hG l hl))
theorem ownFrom_touch {β : Type} {B : Nat} {F : Nat → Prop} {w : World} (hB : w.heap.size ≤ B) : OwnFrom B (fun (_ : β) W => Touch F w W) :=
  fun s X Y row hs hg hr => hs.grown hg (fun k hk => Or.inr (by have := (hr k hk).1; omega))
theorem row_own {β : Type} (B Bx : Nat) (T : TypeId) (xs : List Value) : OwnFrom B (fun (_ : β) W => Row W Bx T xs) := by
  intro s X Y row hs hg hr
  have hl : Bx < X.heap.size := Row.lt hs
  refine (hg.block Bx hl (fun e => ?_)).trans hs
  obtain ⟨-, o, ho, hc⟩ := hr Bx e.symm
  rw [show X.heap[Bx]? = _ from hs] at ho
  cases ho
  cases hc
theorem keepsFrom_touch {B : Nat} {w w' : World} (t : Touch (fun _ => False) w w') : KeepsFrom B w w' := ⟨t.size, fun k o _ hk _ => t.heapN hk⟩
theorem boxed_touch {w w' : World} {B : Nat} {t : TypeId} {v : Value} (h : Boxed w B t v) (tt : Touch (fun _ => False) w w') : Boxed w' B t v := tt.heapN h
/-- How many bytes a body has. -/
def lenV : Value → Int
  | .slice _ n _ => n
  | _ => 0
/-- What is left of the room when k have come. -/
def leftI (l : List It) (k : Nat) : Int := 1452 - ((l.take k).map (fun i => 20 + lenV i.v)).sum
theorem leftI_succ {l : List It} {k : Nat} {x : It} (h : l[k]? = some x) : leftI l (k + 1) = leftI l k - (20 + lenV x.v) := by
  unfold leftI
  have hk := (List.getElem?_eq_some_iff.1 h).1
  have e : l.take (k + 1) = l.take k ++ [x] := by rw [List.take_add_one, h]; rfl
  rw [e, List.map_append, List.sum_append]
  simp
  omega
theorem leftI_le (l : List It) (k : Nat) : leftI l k ≤ 1452 := by
  unfold leftI
  have : ∀ m : List It, 0 ≤ (m.map (fun i => 20 + lenV i.v)).sum := by
    intro m
    induction m with
    | nil => simp
    | cons x m ih =>
      have : 0 ≤ lenV x.v := by unfold lenV; split <;> omega
      simp only [List.map_cons, List.sum_cons]
      omega
  have := this (l.take k)
  omega
theorem below_G {n : Nat} {A B : World} (h : Below n A B) : Touch (fun k => n ≤ k) A B := ⟨h.os, h.tape, h.output, h.size, fun k hk hn => h.block k (by omega)⟩
theorem infoS9 : (Try.prog.info? 53).map (fun i => (i.zero, i.size, i.bytes)) = some (some (.agg #[.int .u16 0, .int .u8 0, .int .u8 0, .int .u32 0, .int .u32 0, .int .i32 0, .int .u16 0, .int .u16 0, .slice none 0 0]), 9, 48) := by kernel_rfl
theorem infoParts9 {x : Option TypeInfo} {z : Value} {k b : Nat} (h : x.map (fun i => (i.zero, i.size, i.bytes)) = some (some z, k, b)) : ∃ i, x = some i ∧ i.zero = some z ∧ i.size = k ∧ i.bytes = b := by
  cases x with
  | none => cases h
  | some i => simp at h; exact ⟨i, rfl, h.1, h.2.1, h.2.2⟩
theorem own_shape9 {w : World} {base e k n : Nat} {v : Value} {xs : List Value} (h : w.ownsRow base e k v n xs) : ∃ a c, v = .slice a n c := by
  obtain ⟨h1, ⟨h2, h3⟩ | ⟨g, cap, cur, hv, _⟩⟩ := h
  · exact ⟨none, 0, by rw [h2, h3]⟩
  · exact ⟨_, _, hv⟩
/-- The cells of states with these heads and bodies. -/
def cellsP (ps : List (HV × Value)) : List Value := ps.flatMap (fun p => p.1.c8 ++ [p.2])
theorem length_cellsP (ps : List (HV × Value)) : (cellsP ps).length = ps.length * 9 := by
  induction ps with
  | nil => rfl
  | cons p ps ih =>
    unfold cellsP at ih ⊢
    simp only [List.flatMap_cons, List.length_append, List.length_cons, ih]
    simp [HV.c8]
    omega
/-- What packet has, when k have come. -/
def PkI (w : World) (l : List It) (k : Nat) (W : World) : Prop :=
  (∃ v, Boxed W w.heap.size 45 v ∧ ∃ ps, W.ownsRow w.heap.size 53 9 v k (cellsP ps) ∧ ps.map Prod.fst = (l.take k).map (fun i => i.h)) ∧ Boxed W (w.heap.size + 1) 3 (.int .i64 (leftI l k)) ∧ Touch (fun k => w.heap.size ≤ k) w W
theorem pkI_own (w : World) (l : List It) (B : Nat) (hB : w.heap.size ≤ B) : OwnFrom B (fun k W => PkI w l k W) := by
  intro k X Y row hs hg hr
  obtain ⟨⟨v, hv, ps, hrow, hps⟩, hf, ht⟩ := hs
  have hr' : ∀ r, row = some r → ∃ o : Obj, X.heap[r]? = some o ∧ o.isCells = false := fun r e => (hr r e).2
  obtain ⟨v', hv', hrow', hG⟩ := holdsRow_own (β := Unit) w.heap.size w.heap.size 45 53 9 (fun _ => k) (fun _ => cellsP ps) (fun _ u => True) () X Y row ⟨v, hv, hrow, trivial⟩ hg hr'
  refine ⟨⟨v', hv', ps, hrow', hps⟩, ?_, ownFrom_touch (β := Unit) hB () X Y row ht hg hr⟩
  exact boxed_own (w.heap.size + 1) 3 (fun _ : Unit => .int .i64 (leftI l k)) () X Y row hf hg hr'
theorem PkI.alloc {w : World} {l : List It} {k : Nat} {W : World} (h : PkI w l k W) (o : Obj) : PkI w l k (W.alloc o) := by
  obtain ⟨⟨v, hv, ps, hrow, hps⟩, hf, ht⟩ := h
  exact ⟨⟨v, hv.alloc o, ps, hrow.alloc o, hps⟩, hf.alloc o, ht.alloc o⟩
set_option maxHeartbeats 4000000 in
theorem packet_any (w : World) (L m e : Nat) (rx wt : Int) (l : List It) (h : LSt w L m e rx wt l) (hsum : ∀ k, k ≤ l.length → 0 ≤ leftI l k) (hlen : l.length ≤ 1000000)
    (HC : ∀ i ∈ l, (∃ a n c, i.v = .slice a n c) ∧ ∀ w', Touch (fun k => w.heap.size ≤ k) w w' → Calls Try.prog 50 #[i.v] w' fun e w'' => ∃ ua un uc, e = .returned (.slice ua un uc) ∧ Touch (fun _ => False) w' w'') :
    Calls Try.prog 42 #[.pointer (some ⟨L, 0, none⟩)] w fun e' w' => ∃ v ps, e' = .returned v ∧ w'.ownsRow w.heap.size 53 9 v l.length (cellsP ps) ∧ ps.map Prod.fst = l.map (fun i => i.h) ∧ Touch (fun _ => False) w w' := by
  have HS : Hid (∀ w', Touch (fun k => w.heap.size ≤ k) w w' → LSt w' L m e rx wt l) := fun w' t => h.keep t (fun k hk q => by have := h.lb_lt hk; omega)
  have hmf : ∀ (fn : Fn) (first cap : Array Value) (w : World), (Instr.makeFunc fn first cap).run Try.prog w = .ok (.func fn first cap) w := fun _ _ _ _ => rfl
  refine (callsIn_wide (n := 6)).1 ?_
  refine callsIn_of_wp_marks Try.func42 rfl trivial ?_ rfl
  simp only [Try.ntmps42, List.size_toArray, List.length_cons, List.length_nil, Nat.reduceAdd, Nat.reduceSub, Array.replicate_succ, Array.replicate_zero, List.push_toArray, List.append_toArray, List.nil_append, List.cons_append]
  gi_wp2_with fail
  have t2 : Touch (fun k => w.heap.size ≤ k) w ((w.alloc (.cells #[.slice none 0 0] 45)).alloc (.cells #[.int .i64 1452] 3)) := ((Touch.refl _ _).alloc _).alloc _
  have b1 : Boxed ((w.alloc (.cells #[.slice none 0 0] 45)).alloc (.cells #[.int .i64 1452] 3)) w.heap.size 45 (.slice none 0 0) := (Boxed.new w 45 (.slice none 0 0)).alloc _
  have b2 : Boxed ((w.alloc (.cells #[.slice none 0 0] 45)).alloc (.cells #[.int .i64 1452] 3)) (w.heap.size + 1) 3 (.int .i64 1452) := by
    have := Boxed.new (w.alloc (.cells #[.slice none 0 0] 45)) 3 (.int .i64 1452)
    rwa [World.size_alloc] at this
  have hs2 : (((w.alloc (.cells #[.slice none 0 0] 45)).alloc (.cells #[.int .i64 1452] 3))).heap.size = w.heap.size + 2 := by simp
  have HSUM : Hid (∀ k, k ≤ l.length → 0 ≤ leftI l k) := hsum
  have HCC : Hid (∀ i ∈ l, (∃ a n c, i.v = .slice a n c) ∧ ∀ w', Touch (fun k => w.heap.size ≤ k) w w' → Calls Try.prog 50 #[i.v] w' fun e w'' => ∃ ua un uc, e = .returned (.slice ua un uc) ∧ Touch (fun _ => False) w' w'') := HC
  clear h hsum HC
  generalize ((w.alloc (.cells #[.slice none 0 0] 45)).alloc (.cells #[.int .i64 1452] 3)) = w2 at *
  refine wpIn_rangeBound (gf := 43) (fst := #[.pointer (some ⟨L, 0, none⟩)]) (encs := encI l) (Kp := Touch (fun k => w.heap.size ≤ k)) (N := l.length) rfl (enters_of Try.func43 (by kernel_rfl) rfl)
    (states_all 5 (by omega) (fun k => w.heap.size ≤ k) L m e rx wt l w2 (fun w' t => HS.out w' (t2.trans t)))
    (fun h k => h.trans k) (touchK_b (fun k hk => by omega)) (encI_size l)
    (PkI w l) (pkI_own w l _ (by omega)) ⟨⟨_, b1, [], World.ownsRow_nil _ _ _ _, rfl⟩, b2, t2⟩
    (fun k a' W => ∃ Bx x, l[k]? = some x ∧ w.heap.size + 2 ≤ Bx ∧ Row W Bx 53 [.int .u16 x.h.age, .int .u8 x.h.opts, .int .u8 x.h.typ, .int .u32 x.h.id, .int .u32 x.h.adv, .int .i32 x.h.seq, .int .u16 x.h.sum, .int .u16 x.h.len, x.v] ∧ a' = { tmps := #[.pointer (some ⟨L, 0, none⟩), undef, .slice none 0 0, .pointer (some ⟨w.heap.size, 0, none⟩), .pointer (some ⟨w.heap.size + 1, 0, none⟩), .pointer (some ⟨Bx, 0, none⟩), .pointer (some ⟨L, 0, none⟩), .func (.func 43) #[.pointer (some ⟨L, 0, none⟩)] #[], .agg #[.int .u16 x.h.age, .int .u8 x.h.opts, .int .u8 x.h.typ, .int .u32 x.h.id, .int .u32 x.h.adv, .int .i32 x.h.seq, .int .u16 x.h.sum, .int .u16 x.h.len, x.v], undef, undef, undef, undef, undef, undef, undef, undef, undef, undef, undef, undef, undef, undef, undef, undef, undef, undef, undef], defers := [] })
    (fun k a' s X Y row hs hg hr => by obtain ⟨Bx, x, h1, h2, h3, h4⟩ := hs; exact ⟨Bx, x, h1, h2, row_own (β := Unit) _ Bx _ _ () X Y row h3 hg hr, h4⟩)
    ?assign ?body ?done
  case assign =>
    intro y k W K hk hI hK
    obtain ⟨x, hx⟩ : ∃ x, l[k]? = some x := ⟨_, List.getElem?_eq_getElem hk⟩
    rw [encI_some hx]
    obtain ⟨xh, xv, xb⟩ := x
    obtain ⟨va, vn, vc, rfl⟩ : ∃ a n c, xv = .slice a n c := (HCC.out _ (List.mem_of_getElem? hx)).1
    have HI : Hid (PkI w l k W) := hI
    have HX : Hid (l[k]? = some ⟨xh, .slice va vn vc, xb⟩) := hx
    clear hI hx
    dsimp only
    gi_wp2
    exact hK _ _ ((KeepsOthers.alloc _ _).from _) ((Touch.refl _ W).alloc _) (HI.out.alloc _) ⟨W.heap.size, _, HX.out, by have := HI.out.2.1.lt; omega, row_new W _ _, rfl⟩
  case body =>
    rintro y k a' W hll ⟨r, hr⟩ hI ⟨Bx, x, hx, hBx, RX, rfl⟩ hlt
    obtain ⟨⟨v, hv, ps, hrow, hps⟩, hf, ht⟩ := hI
    obtain ⟨xh, xv, xb⟩ := x
    have hcl := HCC.out _ (List.mem_of_getElem? hx)
    obtain ⟨va, vn, vc, rfl⟩ : ∃ a n c, xv = .slice a n c := hcl.1
    have hl1 := leftI_succ hx
    have hl2 := HSUM.out (k + 1) hlt
    have hl3 : leftI l k ≤ 1452 := leftI_le l k
    have hl4 : lenV (.slice va vn vc) = (vn : Int) := rfl
    have hw0 : wrap64 (leftI l k - (20 + (vn : Int))) = leftI l (k + 1) := by unfold wrap64; dsimp only at hl1; omega
    have hvn : wrap64 (20 + (vn : Int)) = 20 + (vn : Int) := by unfold wrap64; dsimp only at hl1; omega
    clear hl1 hl4
    obtain ⟨LN, hLN⟩ : ∃ z, leftI l (k + 1) = z := ⟨_, rfl⟩
    rw [hLN] at hl2 hw0
    have HLN : Hid (leftI l (k + 1) = LN) := hLN
    clear hLN
    generalize leftI l k = LO at *
    have c0 := hf.cell
    have f0 := hf.frozen
    have hfl := hf.lt
    have x0 : W.cell? ⟨Bx, 0, none⟩ = some (.int .u16 xh.age) := RX.cell 0
    have x1 : W.cell? ⟨Bx, 1, none⟩ = some (.int .u8 xh.opts) := RX.cell 1
    have x2 : W.cell? ⟨Bx, 2, none⟩ = some (.int .u8 xh.typ) := RX.cell 2
    have x3 : W.cell? ⟨Bx, 3, none⟩ = some (.int .u32 xh.id) := RX.cell 3
    have x4 : W.cell? ⟨Bx, 4, none⟩ = some (.int .u32 xh.adv) := RX.cell 4
    have x5 : W.cell? ⟨Bx, 5, none⟩ = some (.int .i32 xh.seq) := RX.cell 5
    have x6 : W.cell? ⟨Bx, 6, none⟩ = some (.int .u16 xh.sum) := RX.cell 6
    have x7 : W.cell? ⟨Bx, 7, none⟩ = some (.int .u16 xh.len) := RX.cell 7
    have x8 : W.cell? ⟨Bx, 8, none⟩ = some (.slice va vn vc) := RX.cell 8
    have hxl := RX.lt
    have hnn : ¬ (LN < 0) := by omega
    dsimp only at *
    gi_wp2_with fail
    have TA : Touch (fun j => j = w.heap.size + 1) W (W.setCell ⟨w.heap.size + 1, 0, none⟩ (.int .i64 LN)).drew := ((Touch.refl (fun j => j = w.heap.size + 1) W).setCell (p := ⟨w.heap.size + 1, 0, none⟩) (Or.inl rfl) _).drew
    have bF : Boxed (W.setCell ⟨w.heap.size + 1, 0, none⟩ (.int .i64 LN)).drew (w.heap.size + 1) 3 (.int .i64 LN) := (hf.set _)
    have kA : KeepsFrom w2.heap.size W (W.setCell ⟨w.heap.size + 1, 0, none⟩ (.int .i64 LN)).drew := ((KeepsOthers.setCell _ _ _).trans (KeepsOthers.drew _)).from _
    clear c0 f0 hfl hxl hw0 hvn hnn x0 x1 x2 x3 x4 x5 x6 x7 x8
    refine rd_start (by kernel_rfl) ?_
    generalize (W.setCell ⟨w.heap.size + 1, 0, none⟩ (.int .i64 LN)).drew = W0 at *
    have bS : Boxed W0 w.heap.size 45 v := (TA.block _ hv.lt (by omega)).trans hv
    have rS : W0.ownsRow w.heap.size 53 9 v k (cellsP ps) := own_touch hrow TA (fun j hj e => by have h2 := hf.not_row (by decide) hrow; rw [hj, e] at h2; exact h2 rfl)
    have RX0 : Row W0 Bx 53 [.int .u16 xh.age, .int .u8 xh.opts, .int .u8 xh.typ, .int .u32 xh.id, .int .u32 xh.adv, .int .i32 xh.seq, .int .u16 xh.sum, .int .u16 xh.len, .slice va vn vc] := (TA.block Bx RX.lt (by omega)).trans RX
    have tG : Touch (fun j => w.heap.size ≤ j) W W0 := TA.mono (fun j _ e => by omega)
    have HOW : Hid (∀ w', Touch (fun _ => False) W0 w' → Calls Try.prog 40 #[.agg #[.int .u16 xh.age, .int .u8 xh.opts, .int .u8 xh.typ, .int .u32 xh.id, .int .u32 xh.adv, .int .i32 xh.seq, .int .u16 xh.sum, .int .u16 xh.len, .slice va vn vc]] w' fun e' w'' => ∃ ua un uc, e' = .returned (.agg #[.int .u16 xh.age, .int .u8 xh.opts, .int .u8 xh.typ, .int .u32 xh.id, .int .u32 xh.adv, .int .i32 xh.seq, .int .u16 xh.sum, .int .u16 xh.len, .slice ua un uc]) ∧ True ∧ Touch (fun _ => False) w' w'') := fun w' t => own_by (fun _ _ => True) w' xh (.slice va vn vc) (fun w'' t'' => (hcl.2 w'' (ht.trans (tG.trans ((t.trans t'').mono (fun _ _ f => f.elim))))).mono fun e w3 ⟨ua, un, uc, h1, h2⟩ => ⟨ua, un, uc, h1, fun _ _ => trivial, h2⟩)
    have cS := bS.cell
    have hSl := bS.lt
    have z0 : W0.cell? ⟨Bx, 0, none⟩ = some (.int .u16 xh.age) := RX0.cell 0
    have z1 : W0.cell? ⟨Bx, 1, none⟩ = some (.int .u8 xh.opts) := RX0.cell 1
    have z2 : W0.cell? ⟨Bx, 2, none⟩ = some (.int .u8 xh.typ) := RX0.cell 2
    have z3 : W0.cell? ⟨Bx, 3, none⟩ = some (.int .u32 xh.id) := RX0.cell 3
    have z4 : W0.cell? ⟨Bx, 4, none⟩ = some (.int .u32 xh.adv) := RX0.cell 4
    have z5 : W0.cell? ⟨Bx, 5, none⟩ = some (.int .i32 xh.seq) := RX0.cell 5
    have z6 : W0.cell? ⟨Bx, 6, none⟩ = some (.int .u16 xh.sum) := RX0.cell 6
    have z7 : W0.cell? ⟨Bx, 7, none⟩ = some (.int .u16 xh.len) := RX0.cell 7
    have z8 : W0.cell? ⟨Bx, 8, none⟩ = some (.slice va vn vc) := RX0.cell 8
    have hXl := RX0.lt
    have BB : Hid (Boxed W0 w.heap.size 45 v ∧ Boxed W0 (w.heap.size + 1) 3 (.int .i64 LN) ∧ W0.ownsRow w.heap.size 53 9 v k (cellsP ps) ∧ KeepsFrom w2.heap.size W W0 ∧ Touch (fun j => w.heap.size ≤ j) W W0 ∧ Touch (fun j => w.heap.size ≤ j) w W ∧ l[k]? = some ⟨xh, .slice va vn vc, xb⟩ ∧ ps.map Prod.fst = (l.take k).map (fun i => i.h)) := ⟨bS, bF, rS, kA, tG, ht, hx, hps⟩
    clear TA bS bF rS kA tG ht hx hps hv hrow hf RX RX0 hcl
    refine rd_two (i := 0) (j := 1) (fuel := 5) (by kernel_rfl) ?_ ?_
    focus
      refine rd_val (w' := W0) v rfl rfl (by rfl) (by go_simp) ?_
      simp only [Act.put, List.setIfInBounds_toArray]
      refine rd_one (i := 1) (by kernel_rfl) ?_
      refine rd_val (w' := W0) (.agg #[.int .u16 xh.age, .int .u8 xh.opts, .int .u8 xh.typ, .int .u32 xh.id, .int .u32 xh.adv, .int .i32 xh.seq, .int .u16 xh.sum, .int .u16 xh.len, .slice va vn vc]) rfl rfl (by rfl) (by go_simp) ?_
      simp only [Act.put]
      refine rd_one (i := 2) (by kernel_rfl) ?_
      refine rd_call (f := 40) (args := #[.agg #[.int .u16 xh.age, .int .u8 xh.opts, .int .u8 xh.typ, .int .u32 xh.id, .int .u32 xh.adv, .int .i32 xh.seq, .int .u16 xh.sum, .int .u16 xh.len, .slice va vn vc]]) rfl rfl (by rfl) (by go_simp) ?_
      refine Calls.mono (HOW.out _ (Touch.refl _ _)) ?_
      rintro e' w6 ⟨ua, un, uc, rfl, -, t6⟩
      refine ⟨_, rfl, ?_⟩
      simp only [Act.put]
      have cS6 : w6.cell? ⟨w.heap.size, 0, none⟩ = some v := t6.cellN cS
      have hS6 := lt_of_cell cS6
      clear HOW
      refine rd_one (i := 3) (by kernel_rfl) ?_
      refine rd_val (w' := w6.alloc (.cells #[.int .u16 xh.age, .int .u8 xh.opts, .int .u8 xh.typ, .int .u32 xh.id, .int .u32 xh.adv, .int .i32 xh.seq, .int .u16 xh.sum, .int .u16 xh.len, .slice ua un uc] 53)) (.slice (some ⟨w6.heap.size, 0, none⟩) 1 1) rfl rfl (by rfl) (by go_simp) ?_
      simp only [Act.put]
    rotate_left
    refine rd_val (w' := W0) (.agg #[.int .u16 xh.age, .int .u8 xh.opts, .int .u8 xh.typ, .int .u32 xh.id, .int .u32 xh.adv, .int .i32 xh.seq, .int .u16 xh.sum, .int .u16 xh.len, .slice va vn vc]) rfl rfl (by rfl) (by go_simp) ?_
    simp only [Act.put, List.setIfInBounds_toArray]
    refine rd_two (i := 0) (j := 2) (by kernel_rfl) ?_ ?_
    focus
      refine rd_val (w' := W0) v rfl rfl (by rfl) (by go_simp) ?_
      simp only [Act.put]
      refine rd_one (i := 2) (by kernel_rfl) ?_
      refine rd_call (f := 40) (args := #[.agg #[.int .u16 xh.age, .int .u8 xh.opts, .int .u8 xh.typ, .int .u32 xh.id, .int .u32 xh.adv, .int .i32 xh.seq, .int .u16 xh.sum, .int .u16 xh.len, .slice va vn vc]]) rfl rfl (by rfl) (by go_simp) ?_
      refine Calls.mono (HOW.out _ (Touch.refl _ _)) ?_
      rintro e' w6 ⟨ua, un, uc, rfl, -, t6⟩
      refine ⟨_, rfl, ?_⟩
      simp only [Act.put]
      have cS6 : w6.cell? ⟨w.heap.size, 0, none⟩ = some v := t6.cellN cS
      have hS6 := lt_of_cell cS6
      clear HOW
      refine rd_one (i := 3) (by kernel_rfl) ?_
      refine rd_val (w' := w6.alloc (.cells #[.int .u16 xh.age, .int .u8 xh.opts, .int .u8 xh.typ, .int .u32 xh.id, .int .u32 xh.adv, .int .i32 xh.seq, .int .u16 xh.sum, .int .u16 xh.len, .slice ua un uc] 53)) (.slice (some ⟨w6.heap.size, 0, none⟩) 1 1) rfl rfl (by rfl) (by go_simp) ?_
      simp only [Act.put]
    rotate_left
    refine rd_call (f := 40) (args := #[.agg #[.int .u16 xh.age, .int .u8 xh.opts, .int .u8 xh.typ, .int .u32 xh.id, .int .u32 xh.adv, .int .i32 xh.seq, .int .u16 xh.sum, .int .u16 xh.len, .slice va vn vc]]) rfl rfl (by rfl) (by go_simp) ?_
    refine Calls.mono (HOW.out _ (Touch.refl _ _)) ?_
    rintro e' w6 ⟨ua, un, uc, rfl, -, t6⟩
    refine ⟨_, rfl, ?_⟩
    simp only [Act.put]
    have cS6 : w6.cell? ⟨w.heap.size, 0, none⟩ = some v := t6.cellN cS
    have hS6 := lt_of_cell cS6
    clear HOW
    refine rd_two (i := 0) (j := 3) (by kernel_rfl) ?_ ?_
    focus
      refine rd_val (w' := w6) v rfl rfl (by rfl) (by go_simp) ?_
      simp only [Act.put]
      refine rd_one (i := 3) (by kernel_rfl) ?_
      refine rd_val (w' := w6.alloc (.cells #[.int .u16 xh.age, .int .u8 xh.opts, .int .u8 xh.typ, .int .u32 xh.id, .int .u32 xh.adv, .int .i32 xh.seq, .int .u16 xh.sum, .int .u16 xh.len, .slice ua un uc] 53)) (.slice (some ⟨w6.heap.size, 0, none⟩) 1 1) rfl rfl (by rfl) (by go_simp) ?_
      simp only [Act.put]
    rotate_left
    focus
      refine rd_val (w' := w6.alloc (.cells #[.int .u16 xh.age, .int .u8 xh.opts, .int .u8 xh.typ, .int .u32 xh.id, .int .u32 xh.adv, .int .i32 xh.seq, .int .u16 xh.sum, .int .u16 xh.len, .slice ua un uc] 53)) (.slice (some ⟨w6.heap.size, 0, none⟩) 1 1) rfl rfl (by rfl) (by go_simp) ?_
      simp only [Act.put]
      refine rd_one (i := 0) (by kernel_rfl) ?_
      refine rd_val (w' := w6.alloc (.cells #[.int .u16 xh.age, .int .u8 xh.opts, .int .u8 xh.typ, .int .u32 xh.id, .int .u32 xh.adv, .int .i32 xh.seq, .int .u16 xh.sum, .int .u16 xh.len, .slice ua un uc] 53)) v rfl rfl (by rfl) (by go_simp) ?_
      simp only [Act.put]
    all_goals
      obtain ⟨bS, bF, rS, kA, tG, ht, hx, hps⟩ := BB.out
      have bS6 := boxed_touch bS t6
      have bF6 := boxed_touch bF t6
      have rS6 : w6.ownsRow w.heap.size 53 9 v k (cellsP ps) := own_touch rS t6 (fun _ _ h => h)
      have hn6 : w.heap.size ≤ w6.heap.size := by have := bS6.lt; omega
      obtain ⟨i0, hi0, hz0, hz1, hz2⟩ := infoParts9 infoS9
      obtain ⟨v', w8, hrun, own8, grown8, -, hat⟩ := run_append_own_at (P := Try.prog) (w6.alloc (.cells #[.int .u16 xh.age, .int .u8 xh.opts, .int .u8 xh.typ, .int .u32 xh.id, .int .u32 xh.adv, .int .i32 xh.seq, .int .u16 xh.sum, .int .u16 xh.len, .slice ua un uc] 53)) w.heap.size 45 45 53 i0 _ 9 48 Try.underlying45 hi0 hz0 hz1 hz2 rfl (by omega) v k (cellsP ps) (rS6.alloc _) ⟨w6.heap.size, 0, none⟩ 1 1 [.int .u16 xh.age, .int .u8 xh.opts, .int .u8 xh.typ, .int .u32 xh.id, .int .u32 xh.adv, .int .i32 xh.seq, .int .u16 xh.sum, .int .u16 xh.len, .slice ua un uc] rfl (fun j u hj => by
        have hr := (row_new w6 53 #[.int .u16 xh.age, .int .u8 xh.opts, .int .u8 xh.typ, .int .u32 xh.id, .int .u32 xh.adv, .int .i32 xh.seq, .int .u16 xh.sum, .int .u16 xh.len, .slice ua un uc]).cell j
        rw [add_plain, Nat.zero_add]
        exact hr.trans hj) (fun u hu => by simp only [List.mem_cons, List.not_mem_nil, or_false] at hu; rcases hu with rfl | rfl | rfl | rfl | rfl | rfl | rfl | rfl | rfl <;> rfl) (by unfold maxLen; omega) (by omega) (by simp; omega)
      obtain ⟨va8, vc8, rfl⟩ := own_shape9 own8
      obtain ⟨q1, q2, q3, q4, q5⟩ := bS6.appended (by decide) rS6 hn6 (Nat.le_refl _) own8 grown8
      have bF9 : Boxed (w8.setCell ⟨w.heap.size, 0, none⟩ (.slice va8 (k + 1) vc8)) (w.heap.size + 1) 3 (.int .i64 LN) := by
        have h8 : Boxed w8 (w.heap.size + 1) 3 (.int .i64 LN) := (bF6.alloc _).kept grown8 (bF6.not_row (by decide) rS6)
        exact (heap_setCell_other w8 ⟨w.heap.size, 0, none⟩ (w.heap.size + 1) _ (by show w.heap.size + 1 ≠ w.heap.size; omega)).trans h8
      have FIN : Hid (∀ a0, goesOn w2.heap.size (Touch (fun j => w.heap.size ≤ j)) (PkI w l) (k + 1) W .normal a0 (w8.setCell ⟨w.heap.size, 0, none⟩ (.slice va8 (k + 1) vc8))) := by
        intro a0
        have tZ : Touch (fun j => w.heap.size ≤ j) W (w8.setCell ⟨w.heap.size, 0, none⟩ (.slice va8 (k + 1) vc8)) := tG.trans ((t6.mono (fun _ _ f => f.elim)).trans (below_G q5))
        refine ⟨(kA.trans (keepsFrom_touch t6)).trans (q4.from _), tZ, ⟨⟨_, q2, ps ++ [(xh, .slice ua un uc)], ?_, ?_⟩, by rw [HLN.out]; exact bF9, ht.trans tZ⟩⟩
        · have e1 : cellsP (ps ++ [(xh, Value.slice ua un uc)]) = cellsP ps ++ [.int .u16 xh.age, .int .u8 xh.opts, .int .u8 xh.typ, .int .u32 xh.id, .int .u32 xh.adv, .int .i32 xh.seq, .int .u16 xh.sum, .int .u16 xh.len, .slice ua un uc] := by simp [cellsP, HV.c8]
          rw [e1]
          exact q3
        · rw [List.take_add_one, hx, List.map_append, List.map_append, hps]
          rfl
      have c8 := q1.cell
      have f8 := q1.frozen
      have hl8 := q1.lt
      clear q2 q3 q4 q5 bF9 own8 grown8 hat bS bF rS kA tG ht hx hps bS6 bF6 rS6 hn6
      refine rd_one (i := 4) (by kernel_rfl) ?_
      refine rd_append rfl rfl (by rfl) (.tmp 22) (.tmp 25) 45 rfl v (.slice (some ⟨w6.heap.size, 0, none⟩) 1 1) (.slice va8 (k + 1) vc8) (by rfl) (by rfl) hrun ?_
      simp only [Act.put]
      refine rd_one (i := 5) (by kernel_rfl) ?_
      refine rd_skip (w' := w8.setCell ⟨w.heap.size, 0, none⟩ (.slice va8 (k + 1) vc8)) rfl rfl (by rfl) (by go_simp) ?_
      exact rd_done (by kernel_rfl) (FIN.out { tmps := #[], defers := [] })
  case done =>
    rintro D W hD ⟨⟨v, hv, ps, hrow, hps⟩, hf, ht⟩ hK
    have hcv := hv.cell
    have hvl := hv.lt
    have tF : Touch (fun _ => False) w W := ht.mono (fun k hk q => by omega)
    gi_wp2
    refine ⟨by simp, .inl ⟨_, _, rfl, run_takeDeferred hK, ?_⟩⟩
    refine ⟨_, results_tmp rfl _ _ _, v, ps, rfl, ownsRow_putObj hrow _ hK rfl, ?_, ?_⟩
    · rw [hps, List.take_length]
    · exact tF.grown (grownBy_putObj' W D _) (fun k hk => by cases hk; exact Or.inr (by omega))
end Go.Proofs.Ytedolfggbgmklaa
