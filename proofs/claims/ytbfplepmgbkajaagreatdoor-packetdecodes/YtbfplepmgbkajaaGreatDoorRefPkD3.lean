/- The document's side of stage 7: rows of states that are read. -/
import Derived.Test.YtbfplepmgbkajaaGreatDoorRefPkD1
import Derived.Test.YtbfplepmgbkajaaGreatDoorRefRd6
import Derived.Test.YtbfplepmgbkajaaGreatDoorPkHvA
import Derived.Test.YtbfplepmgbkajaaGreatDoorPkRu
import Derived.Test.YtbfplepmgbkajaaGreatDoorKeep
import Derived.Test.YtbfplepmgbkajaaGreatDoorBagKm
import Derived.Deep.DeepCutAuto
namespace Go.Proofs.YtbfplepmgbkajaaGreatDoor
open Go.RowKit
set_option linter.unusedVariables false
set_option maxRecDepth 100000

section
variable {ops : Array Oper} {rest : List Oper} {o : Oper} {a : Act} {Q : Exit → Act → World → Prop} {w : World}
/-- append to a row of one's own: nothing but its block is turned. -/
theorem vapp_blk (hgd : o.guard = none) (s x : Operand) (t : TypeId) (ho : o.op = .call { callee := .builtin .append, args := #[s, x], argTypes := #[t, t] })
  (e k bytes : Nat) (z : Value) (ht : Tryz.prog.underlying t = some (.slice e)) (hi : (Tryz.prog.info? e).map (fun i => (i.zero, i.size, i.bytes)) = some (some z, k, bytes)) (hzs : z.cells.size = k) (hk : 0 < k) (hby : bytes ≤ 64)
  (base : Nat) (v : Value) (n : Nat) (xs : List Value) (hs : a.eval s = v) (hb : w.ownsRow base e k v n xs) (hbase : base ≤ w.heap.size) (ad : Addr) (m c : Nat) (news : List Value) (hx : a.eval x = .slice (some ad) m c) (hnl : news.length = m * k) (hr : ∀ j u, news[j]? = some u → w.cell? (ad.add j) = some u) (h1 : ∀ u ∈ news, u.oneCell' = true) (hl : n + m ≤ 1099511627776)
  (h : ∀ v' w', w'.ownsRow base e k v' (n + m) (xs ++ news) → Touch (fun j => v.ownBlock = some j) w w' → wpList Tryz.prog ops Q rest (a.put o.dst v') w') : wpList Tryz.prog ops Q (o :: rest) a w := by
 obtain ⟨i0, hi, hz0, hz1, hz2⟩ := info_parts hi
 have hmul : (n + m) * bytes ≤ 1099511627776 * 64 := Nat.mul_le_mul hl hby
 refine wpList_append_own_at w hgd s x t ho base e i0 z k bytes ht hi hz0 hz1 hz2 hzs hk v n xs hs hb ad m c news hx hnl hr h1 (by unfold maxLen; omega) (by omega) hbase ?_
 intro v' w' hown hg _ _
 exact h v' w' hown ((Touch.refl _ _).grown hg (fun k hk => Or.inl hk))
end
theorem numOf_small4 {l : List Int} (hl : l.length ≤ 4) (h : ∀ z ∈ l, 0 ≤ z ∧ z < 256) : 0 ≤ numOf l ∧ numOf l < 4294967296 := by
 obtain ⟨h0, h1⟩ := numOf_bound l h
 refine ⟨h0, Int.lt_of_lt_of_le h1 ?_⟩
 have : (256 : Nat) ^ l.length ≤ 256 ^ 4 := Nat.pow_le_pow_right (by decide) hl
 have e : ((256 : Int) ^ l.length) = ((256 ^ l.length : Nat) : Int) := by push_cast; rfl
 rw [e]
 have h4 : (256 : Nat) ^ 4 = 4294967296 := by decide
 omega
theorem rdPre_nil7 (c : List Int) (j : Nat) (h : rdPre j c = none) : ∀ m, rdPre (j + m) c = none
 | 0 => h
 | m + 1 => by rw [← Nat.add_assoc, rdPre, rdPre_nil7 c j h m]
theorem rdAll_some {c l : List Int} {x : List ST} (h : rdPre (numOf (c.take 4)).toNat (c.drop 4) = some (x, l)) : rdAll c = if l = [] then some x else none := by
 unfold rdAll
 rw [h]
 cases l <;> simp
theorem rdAll_none {c : List Int} {j : Nat} (hj : j ≤ (numOf (c.take 4)).toNat) (h : rdPre j (c.drop 4) = none) : rdAll c = none := by
 unfold rdAll
 obtain ⟨m, hm⟩ : ∃ m, (numOf (c.take 4)).toNat = j + m := ⟨_, (Nat.add_sub_cancel' hj).symm⟩
 rw [hm, rdPre_nil7 _ j h m]
/-- What states answers. -/
structure DsP (w : World) (rs : List Int) (e : Ending) (w' : World) : Prop where
 t : Touch (fun _ => False) w w'
 out : ∃ (u : Value) (q : Bool), e = .returned (.tuple #[u, .bool q]) ∧ (q = true ↔ 4 ≤ rs.length ∧ (rdAll rs).isSome = true) ∧ (q = true → ∃ l : List SE, l.map SE.p = (rdAll rs).getD [] ∧ w'.ownsRow w.heap.size 95 9 u l.length (statesC l) ∧ (∀ x ∈ l, w'.ownsRow w.heap.size 5 1 x.v x.rs.length (bytesOf x.rs)) ∧ ∀ x ∈ l, x.h.All ∧ ∀ z ∈ x.rs, 0 ≤ z ∧ z < 256) ∧ (q = false → ∃ n c, ∃ a, u = .slice a n c)
structure DsR (w : World) (rs : List Int) (cnt gg : Nat) (b l i : Value) (wr : World) : Prop where
 out : ∃ (j : Nat) (ls : List SE) (r : List Int) (va : Option Addr) (vc : Nat) (la : Option Addr) (lc : Nat), j ≤ cnt ∧ gg = cnt - j ∧ i = .int .u32 (j : Int) ∧ b = .slice va r.length vc ∧ l = .slice la j lc ∧ rdPre j (rs.drop 4) = some (ls.map SE.p, r) ∧ ArgAt w (.slice va r.length vc) r ∧ (∀ z ∈ r, z ∈ rs) ∧ r.length + 20 * j ≤ rs.length ∧ wr.ownsRow w.heap.size 95 9 (.slice la j lc) j (statesC ls) ∧ (∀ x ∈ ls, wr.ownsRow w.heap.size 5 1 x.v x.rs.length (bytesOf x.rs)) ∧ Touch (fun _ => False) w wr
set_option maxHeartbeats 4000000 in
theorem dstates7 (v : Value) (rs : List Int) (w : World) (hv : ArgAt w v rs) (hby : ∀ z ∈ rs, 0 ≤ z ∧ z < 256) (hl : rs.length ≤ 1000000) :
  Calls Tryz.prog 116 #[v] w (DsP w rs) := by
 obtain ⟨va, vc, rfl, -⟩ := hv.form
 by_cases h4 : rs.length < 4
 ·have h4' : (rs.length : Int) < 4 := by omega
  clear hv hby
  go_enter Tryz.func116, Tryz.ntmps116
  go_wp2_with fail
  go_ret2
  exact ⟨Touch.refl _ _, .slice none 0 0, false, rfl, by simp; omega, (fun h => by cases h), (fun _ => ⟨_, _, _, rfl⟩)⟩
 have h4' : ¬ (rs.length : Int) < 4 := by omega
 obtain ⟨u4, hu4, ua4⟩ := cut_to hv rfl (by omega) 4 (by omega)
 obtain ⟨ud, hud, uad⟩ := cut_from hv rfl (by omega) 4 (by omega)
 have q4 : ∀ w, Sem.run Tryz.prog (Instr.slice 40 (.slice va rs.length vc) none (some (.int .i64 4)) none) w = .ok u4 w := hu4
 have qd : ∀ w, Sem.run Tryz.prog (Instr.slice 40 (.slice va rs.length vc) (some (.int .i64 4)) none none) w = .ok ud w := hud
 have HNb := pnumber_any u4 (rs.take 4) w ua4 (fun z hz => hby z (List.mem_of_mem_take hz)) (by simp; omega)
 have hb4 : 0 ≤ numOf (rs.take 4) ∧ numOf (rs.take 4) < 4294967296 := numOf_small4 (by simp; omega) (fun z hz => hby z (List.mem_of_mem_take hz))
 obtain ⟨cnt, hcnt⟩ : ∃ cnt : Nat, (cnt : Int) = numOf (rs.take 4) := ⟨(numOf (rs.take 4)).toNat, by omega⟩
 have HCN : Hid ((numOf (rs.take 4)).toNat = cnt) := by show _ = _; omega
 have hcb : (cnt : Int) < 4294967296 := by omega
 rw [← hcnt] at HNb
 obtain ⟨da, dc, ed, -⟩ := uad.form
 subst ed
 have REL : Hid (DsR w rs cnt cnt (.slice da (rs.drop 4).length dc) (.slice none 0 0) (.int .u32 0) w) := ⟨0, [], rs.drop 4, da, dc, none, 0, by omega, by omega, rfl, rfl, rfl, rfl, uad, (fun z hz => List.mem_of_mem_drop hz), by simp, World.ownsRow_nil _ _ _ _, (fun x hx => by cases hx), Touch.refl _ _⟩
 have HBY : Hid (∀ z ∈ rs, 0 ≤ z ∧ z < 256) := hby
 have H4 : Hid (4 ≤ rs.length ∧ rs.length ≤ 1000000) := ⟨by omega, hl⟩
 clear hv hby hu4 hud ua4 uad hb4 hcnt h4 hl
 go_enter Tryz.func116, Tryz.ntmps116
 go_wp2_with fail
 refine Calls.mono HNb ?_
 rintro e wz ⟨rfl, rfl⟩
 clear HNb
 go_wp2_with fail
 go_loopg [0, 5, 6] cnt (fun gg b l i wr => DsR w rs cnt gg b l i wr)
 case atStart => have e := REL.out; rw [List.length_drop] at e; exact e
 case round =>
  clear REL q4 qd
  obtain ⟨j, ls, r, xa, xc, la, lc, hj, hgg, rfl, rfl, rfl, hpre, hx, hmem, hlen, how, hob, tw⟩ := hrel.out
  have HPRE : Hid (rdPre j (rs.drop 4) = some (ls.map SE.p, r)) := hpre
  have HXA : Hid (∀ w', Touch (fun _ => False) w w' → ArgAt w' (.slice xa r.length xc) r) := fun w' t => hx.keepN t
  have HMEM : Hid (∀ z ∈ r, z ∈ rs) := hmem
  have HLE : Hid (r.length + 20 * j ≤ rs.length) := hlen
  have HOW : Hid (wr.ownsRow w.heap.size 95 9 (.slice la j lc) j (statesC ls)) := how
  have HOB : Hid (∀ x ∈ ls, wr.ownsRow w.heap.size 5 1 x.v x.rs.length (bytesOf x.rs)) := hob
  have TW : Hid (Touch (fun _ => False) w wr) := tw
  have hrb : ∀ z ∈ r, 0 ≤ z ∧ z < 256 := fun z hz => HBY.out z (hmem z hz)
  clear hrel how hob tw hmem hlen
  by_cases hlt : j < cnt
  ·have hlt' : (j : Int) < (cnt : Int) := by omega
   have hjw : IntKind.u32.wrap ((j : Int) + 1) = (j : Int) + 1 := by simp [IntKind.wrap, IntKind.bits, IntKind.signed]; omega
   by_cases hE : readE r = 0
   ·obtain ⟨z1, z2, z3⟩ := readE_zero hE
    obtain ⟨H, hH⟩ : ∃ H, rdHead (r.take 20) = H := ⟨_, rfl⟩
    rw [hH] at z2 z3
    obtain ⟨bd, hbd⟩ : ∃ bd, (r.drop 20).take (H.len.toNat - 20) = bd := ⟨_, rfl⟩
    have HR := dread_good _ r wr (HXA.out wr TW.out) hrb z1 (by have := HLE.out; have := H4.out; omega) H hH z2 z3
    unfold HV.sv at HR
    rw [hbd] at HR
    obtain ⟨un, hun, uan⟩ := cut_from hx rfl (by omega) H.len.toNat (by omega)
    obtain ⟨ya, yc, ey, -⟩ := uan.form
    subst ey
    have qn : ∀ w, Sem.run Tryz.prog (Instr.slice 40 (.slice xa r.length xc) (some (.int .i64 H.len)) none none) w = .ok (.slice ya (r.drop H.len.toNat).length yc) w := by
     rw [show H.len = ((H.len.toNat : Nat) : Int) by omega]
     exact hun
    have HPN : Hid (rdPre (j + 1) (rs.drop 4) = some (ls.map SE.p ++ [(H, bd)], r.drop H.len.toNat)) := by
     show _ = _
     rw [rdPre, hpre]
     simp only [hE, if_true]
     rw [hH, hbd]
    have HUA : Hid (ArgAt w (.slice ya (r.drop H.len.toNat).length yc) (r.drop H.len.toNat)) := uan
    have HZ : Hid (20 ≤ H.len.toNat ∧ H.len.toNat ≤ r.length) := ⟨by omega, by omega⟩
    have HR' : Hid ((r.drop H.len.toNat).length + 20 * (j + 1) ≤ rs.length ∧ ∀ z ∈ r.drop H.len.toNat, z ∈ rs) := ⟨by rw [List.length_drop]; have h1 := HLE.out; have h2 := HZ.out; omega, fun z hz => HMEM.out z (List.mem_of_mem_drop hz)⟩
    generalize r.drop H.len.toNat = r' at *
    clear hx hun uan hpre hE z1 z2 z3 hH hbd hrb
    go_wp2_with fail
    refine Calls.mono HR ?_
    rintro e w2 ⟨u2, rfl, b2⟩
    obtain ⟨ua, uc, rfl⟩ := b2.form
    have O2 : Hid ((w2.alloc (.cells #[.int .u16 H.age, .int .u8 H.opts, .int .u8 H.typ, .int .u32 H.id, .int .u32 H.adv, .int .i32 H.seq, .int .u16 H.sum, .int .u16 H.len, .slice ua bd.length uc] 95)).ownsRow w.heap.size 95 9 (.slice la j lc) j (statesC ls)) := own_touch HOW.out (b2.t.alloc _) (fun _ _ f => f)
    have B2 : Hid (∀ x ∈ ls, (w2.alloc (.cells #[.int .u16 H.age, .int .u8 H.opts, .int .u8 H.typ, .int .u32 H.id, .int .u32 H.adv, .int .i32 H.seq, .int .u16 H.sum, .int .u16 H.len, .slice ua bd.length uc] 95)).ownsRow w.heap.size 5 1 x.v x.rs.length (bytesOf x.rs)) := fun x hx => own_touch (HOB.out x hx) (b2.t.alloc _) (fun _ _ f => f)
    have U2 : Hid ((w2.alloc (.cells #[.int .u16 H.age, .int .u8 H.opts, .int .u8 H.typ, .int .u32 H.id, .int .u32 H.adv, .int .i32 H.seq, .int .u16 H.sum, .int .u16 H.len, .slice ua bd.length uc] 95)).ownsRow w.heap.size 5 1 (.slice ua bd.length uc) bd.length (bytesOf bd)) := own_touch (own_lower b2.own TW.out.size) ((Touch.refl (fun _ => False) _).alloc _) (fun _ _ f => f)
    have T2 : Hid (Touch (fun _ => False) w (w2.alloc (.cells #[.int .u16 H.age, .int .u8 H.opts, .int .u8 H.typ, .int .u32 H.id, .int .u32 H.adv, .int .i32 H.seq, .int .u16 H.sum, .int .u16 H.len, .slice ua bd.length uc] 95))) := TW.out.trans (b2.t.alloc _)
    have R2 : Hid (Row (w2.alloc (.cells #[.int .u16 H.age, .int .u8 H.opts, .int .u8 H.typ, .int .u32 H.id, .int .u32 H.adv, .int .i32 H.seq, .int .u16 H.sum, .int .u16 H.len, .slice ua bd.length uc] 95)) w2.heap.size 95 [.int .u16 H.age, .int .u8 H.opts, .int .u8 H.typ, .int .u32 H.id, .int .u32 H.adv, .int .i32 H.seq, .int .u16 H.sum, .int .u16 H.len, .slice ua bd.length uc]) := row_new w2 95 #[.int .u16 H.age, .int .u8 H.opts, .int .u8 H.typ, .int .u32 H.id, .int .u32 H.adv, .int .i32 H.seq, .int .u16 H.sum, .int .u16 H.len, .slice ua bd.length uc]
    clear b2 HR HOW HOB TW
    go_upto_region 10 with fail
    generalize w2.alloc (.cells #[.int .u16 H.age, .int .u8 H.opts, .int .u8 H.typ, .int .u32 H.id, .int .u32 H.adv, .int .i32 H.seq, .int .u16 H.sum, .int .u16 H.len, .slice ua bd.length uc] 95) = x2 at *
    generalize w2.heap.size = gh at *
    have c0 : x2.cell? ⟨gh, 0, none⟩ = some (.int .u16 H.age) := R2.out.cell 0
    have c1 : x2.cell? ⟨gh, 1, none⟩ = some (.int .u8 H.opts) := R2.out.cell 1
    have c2 : x2.cell? ⟨gh, 2, none⟩ = some (.int .u8 H.typ) := R2.out.cell 2
    have c3 : x2.cell? ⟨gh, 3, none⟩ = some (.int .u32 H.id) := R2.out.cell 3
    have c4 : x2.cell? ⟨gh, 4, none⟩ = some (.int .u32 H.adv) := R2.out.cell 4
    have c5 : x2.cell? ⟨gh, 5, none⟩ = some (.int .i32 H.seq) := R2.out.cell 5
    have c6 : x2.cell? ⟨gh, 6, none⟩ = some (.int .u16 H.sum) := R2.out.cell 6
    have c7 : x2.cell? ⟨gh, 7, none⟩ = some (.int .u16 H.len) := R2.out.cell 7
    have c8 : x2.cell? ⟨gh, 8, none⟩ = some (.slice ua bd.length uc) := R2.out.cell 8
    have O3 : Hid ((x2.alloc (.cells #[.int .u16 H.age, .int .u8 H.opts, .int .u8 H.typ, .int .u32 H.id, .int .u32 H.adv, .int .i32 H.seq, .int .u16 H.sum, .int .u16 H.len, .slice ua bd.length uc] 95)).ownsRow w.heap.size 95 9 (.slice la j lc) j (statesC ls)) := own_touch O2.out ((Touch.refl (fun _ => False) _).alloc _) (fun _ _ f => f)
    have L3 := (vlit x2 #[.int .u16 H.age, .int .u8 H.opts, .int .u8 H.typ, .int .u32 H.id, .int .u32 H.adv, .int .i32 H.seq, .int .u16 H.sum, .int .u16 H.len, .slice ua bd.length uc] 95 9 rfl)
    have LC : Hid (∀ i u, [.int .u16 H.age, .int .u8 H.opts, .int .u8 H.typ, .int .u32 H.id, .int .u32 H.adv, .int .i32 H.seq, .int .u16 H.sum, .int .u16 H.len, .slice ua bd.length uc][i]? = some u → (x2.alloc (.cells #[.int .u16 H.age, .int .u8 H.opts, .int .u8 H.typ, .int .u32 H.id, .int .u32 H.adv, .int .i32 H.seq, .int .u16 H.sum, .int .u16 H.len, .slice ua bd.length uc] 95)).cell? ((⟨x2.heap.size, 0, none⟩ : Addr).add i) = some u) := by
     intro i u hi
     rw [add_plain, Nat.zero_add, cell_of_row _ _ i _ _ _ (heap_alloc_new x2 _), ← Array.getElem?_toList]
     exact hi
    have SZ3 : Hid (w.heap.size ≤ (x2.alloc (.cells #[.int .u16 H.age, .int .u8 H.opts, .int .u8 H.typ, .int .u32 H.id, .int .u32 H.adv, .int .i32 H.seq, .int .u16 H.sum, .int .u16 H.len, .slice ua bd.length uc] 95)).heap.size) := (T2.out.alloc _).size
    clear L3
    go_upto_region 13 with (at_builtin; refine vapp_blk rfl (.tmp 31) (.tmp 33) 31 rfl 95 9 48 (.agg #[.int .u16 0, .int .u8 0, .int .u8 0, .int .u32 0, .int .u32 0, .int .i32 0, .int .u16 0, .int .u16 0, .slice none 0 0]) Tryz.underlying31 Tryz.infoS9 rfl (by decide) (by decide) w.heap.size _ j _ rfl O3.out SZ3.out ⟨x2.heap.size, 0, none⟩ 1 1 [.int .u16 H.age, .int .u8 H.opts, .int .u8 H.typ, .int .u32 H.id, .int .u32 H.adv, .int .i32 H.seq, .int .u16 H.sum, .int .u16 H.len, .slice ua bd.length uc] rfl rfl LC.out (by simp [Value.oneCell']) (by have := HLE.out; have := H4.out; omega) ?_; intro l' w4 o4 t4)
    obtain ⟨la', lc', el⟩ := own_form o4
    subst el
    have TA : Touch (fun _ => False) x2 (x2.alloc (.cells #[.int .u16 H.age, .int .u8 H.opts, .int .u8 H.typ, .int .u32 H.id, .int .u32 H.adv, .int .i32 H.seq, .int .u16 H.sum, .int .u16 H.len, .slice ua bd.length uc] 95)) := (Touch.refl _ _).alloc _
    have REL : Hid (DsR w rs cnt (cnt - (j + 1)) (.slice ya r'.length yc) (.slice la' (j + 1) lc') (.int .u32 ((j : Int) + 1)) w4) := by
     refine ⟨j + 1, ls ++ [⟨H, .slice ua bd.length uc, bd⟩], r', ya, yc, la', lc', by omega, rfl, rfl, rfl, rfl, ?_, HUA.out, HR'.out.2, HR'.out.1, ?_, ?_, ?_⟩
     ·rw [HPN.out, List.map_append]; rfl
     ·have e : statesC (ls ++ [⟨H, .slice ua bd.length uc, bd⟩]) = statesC ls ++ [.int .u16 H.age, .int .u8 H.opts, .int .u8 H.typ, .int .u32 H.id, .int .u32 H.adv, .int .i32 H.seq, .int .u16 H.sum, .int .u16 H.len, .slice ua bd.length uc] := by simp [statesC, SE.cells]
      rw [e]; exact o4
     ·intro x hx
      rcases List.mem_append.1 hx with hx | hx
      ·exact own_touch (own_touch (B2.out x hx) TA (fun _ _ f => f)) t4 (fun k hk e => own_unlike O2.out (B2.out x hx) (by decide) e hk)
      ·obtain rfl := List.mem_singleton.1 hx
       exact own_touch (own_touch U2.out TA (fun _ _ f => f)) t4 (fun k hk e => own_unlike O2.out U2.out (by decide) e hk)
     ·exact (T2.out.trans TA).trans' t4 (fun i hi e => by have := (O2.out.lt i e).1; omega)
    clear o4 t4 O2 O3 B2 U2 T2 R2 TA LC SZ3 c0 c1 c2 c3 c4 c5 c6 c7 c8
    go_wp2_with fail
    go_roundg (cnt - (j + 1))
    case measure => omega
    case rel => exact REL.out
   ·have HR := dread_bad _ r wr (HXA.out wr TW.out) hrb hE
    have hEb : (readE r != 0) = true := by simpa using hE
    have HNN : Hid (rdAll rs = none) := rdAll_none (j := j + 1) (by have := HCN.out; omega) (by rw [rdPre, hpre]; simp [hE])
    generalize readE r = E at *
    clear hx hpre hrb hE
    go_wp2_with fail
    refine Calls.mono HR ?_
    rintro e w2 ⟨rfl, t2⟩
    have T2 : Hid (Touch (fun _ => False) w w2) := TW.out.trans t2
    clear t2 HR TW
    go_wp2_with fail
    go_ret2
    exact ⟨T2.out.alloc _, .slice none 0 0, false, rfl, by rw [HNN.out]; simp, (fun h => by cases h), (fun _ => ⟨_, _, _, rfl⟩)⟩
  ·obtain rfl : j = cnt := by omega
   have hlt' : ¬ (j : Int) < (j : Int) := by omega
   have HA : Hid (rdAll rs = if r = [] then some (ls.map SE.p) else none) := rdAll_some (by rw [HCN.out]; exact HPRE.out)
   have HST : Hid (wr.ownsRow w.heap.size 95 9 (.slice la j lc) ls.length (statesC ls) ∧ (∀ x ∈ ls, wr.ownsRow w.heap.size 5 1 x.v x.rs.length (bytesOf x.rs)) ∧ ∀ x ∈ ls, x.h.All ∧ ∀ z ∈ x.rs, 0 ≤ z ∧ z < 256) := by
    have hbk := rdPre_back j (rs.drop 4) _ r (fun z hz => HBY.out z (List.mem_of_mem_drop hz)) HPRE.out
    have hlj : ls.length = j := by have := hbk.2.1; simpa using this
    refine ⟨by rw [hlj]; exact HOW.out, HOB.out, fun x hx => ?_⟩
    have := hbk.2.2 x.p (List.mem_map_of_mem hx)
    exact ⟨this.1, this.2.2⟩
   clear hx hpre hrb HPRE
   go_wp2_with fail
   go_ret2
   refine ⟨TW.out, .slice la j lc, ((r.length : Int) == 0), rfl, ?_, fun h => ⟨ls, ?_, HST.out⟩, fun _ => ⟨_, _, _, rfl⟩⟩
   ·rw [HA.out]
    have h4 := H4.out.1
    cases r with
    | nil => simp [h4]
    | cons z r => simp; omega
   ·rw [HA.out]
    cases r with
    | nil => simp
    | cons z r => simp at h; omega
end Go.Proofs.YtbfplepmgbkajaaGreatDoor

namespace Go.Proofs.YtbfplepmgbkajaaGreatDoor
open Go.RowKit
set_option linter.unusedVariables false
set_option maxRecDepth 100000

def kE (rs : List Int) : Int := if rs.length % 12 = 0 then (if (cuts 12 rdKey rs).all (fun k => decide (k.typ ≤ 255)) then 0 else 24) else 22
structure DkP (w : World) (rs : List Int) (e : Ending) (w' : World) : Prop where
 t : Touch (fun _ => False) w w'
 out : ∃ u : Value, e = .returned (.tuple #[u, .int .i64 (kE rs)]) ∧ (kE rs = 0 → VBuf 125 3 w w' u (cuts 12 rdKey rs).length (keysC (cuts 12 rdKey rs))) ∧ ∃ a n c, u = .slice a n c
structure DkR (w : World) (rs : List Int) (gg : Nat) (l i : Value) (wr : World) : Prop where
 out : ∃ (j : Nat) (la : Option Addr) (lc : Nat), 12 * j ≤ rs.length ∧ gg = rs.length / 12 - j ∧ i = .int .i64 ((12 * j : Nat) : Int) ∧ l = .slice la j lc ∧ VBuf 125 3 w wr (.slice la j lc) j (keysC ((List.range j).map fun i => rdKey (cutAt 12 rs i))) ∧ (∀ i, i < j → (rdKey (cutAt 12 rs i)).typ ≤ 255)
set_option maxHeartbeats 4000000 in
theorem dkeys7 (v : Value) (rs : List Int) (w : World) (hv : ArgAt w v rs) (hby : ∀ z ∈ rs, 0 ≤ z ∧ z < 256) (hl : rs.length ≤ 1000000) : Calls Tryz.prog 115 #[v] w (DkP w rs) := by
 obtain ⟨va, vc, rfl, -⟩ := hv.form
 by_cases hm : rs.length % 12 = 0
 rotate_left
 ·have hmb : (((rs.length : Int) % 12) != 0) = true := by
   have : ¬ ((rs.length : Int) % 12 = 0) := by omega
   simpa using this
  have hmt : ((rs.length : Int).tmod 12 != 0) = true := by rw [Int.tmod_eq_emod_of_nonneg (by omega)]; exact hmb
  have hE : kE rs = 22 := by unfold kE; rw [if_neg hm]
  have FIN : Hid (DkP w rs (.returned (.tuple #[.slice none 0 0, .int .i64 22])) w) := ⟨Touch.refl _ _, .slice none 0 0, by rw [hE], (fun h => by omega), ⟨_, _, _, rfl⟩⟩
  clear hv hby hE hm
  go_enter Tryz.func115, Tryz.ntmps115
  go_wp2_with fail
  go_ret2
  exact FIN.out
 have hmb : (((rs.length : Int) % 12) != 0) = false := by
  have : (rs.length : Int) % 12 = 0 := by omega
  simpa using this
 have hmt : ((rs.length : Int).tmod 12 != 0) = false := by rw [Int.tmod_eq_emod_of_nonneg (by omega)]; exact hmb
 have HV' : Hid (∀ w', Touch (fun _ => False) w w' → ArgAt w' (.slice va rs.length vc) rs) := fun w' t => hv.keepN t
 have HBY : Hid (∀ z ∈ rs, 0 ≤ z ∧ z < 256) := hby
 have HM : Hid (rs.length % 12 = 0) := hm
 have REL : Hid (DkR w rs (rs.length / 12) (.slice none 0 0) (.int .i64 0) w) := ⟨0, none, 0, by omega, by omega, rfl, rfl, VBuf.nil _ _ (Touch.refl _ _), (fun i hi => by omega)⟩
 clear hv hby hm
 go_enter Tryz.func115, Tryz.ntmps115
 go_wp2_with fail
 go_loopg [4, 5] (rs.length / 12) (fun gg l i wr => DkR w rs gg l i wr)
 case atStart => exact REL.out
 case round =>
  clear REL hmb hmt
  obtain ⟨j, la, lc, hj, hgg, rfl, rfl, hvb, hsm⟩ := hrel.out
  obtain ⟨p, hp⟩ : ∃ p, p = 12 * j := ⟨_, rfl⟩
  rw [← hp]
  have HP : Hid (p = 12 * j) := hp
  have HVB : Hid (VBuf 125 3 w wr (.slice la j lc) j (keysC ((List.range j).map fun i => rdKey (cutAt 12 rs i)))) := hvb
  have HSM : Hid (∀ i, i < j → (rdKey (cutAt 12 rs i)).typ ≤ 255) := hsm
  have hpl : p ≤ rs.length := by omega
  have hmm := HM.out
  by_cases hlt : p < rs.length
  ·have hlt' : (p : Int) < (rs.length : Int) := by omega
   have hp12 : p + 12 ≤ rs.length := by omega
   have hjn : j < rs.length / 12 := by omega
   have hjb : j ≤ 1000000 := by omega
   have va' := HV'.out wr hvb.t
   obtain ⟨u0, hu0, a0⟩ := cut_mid va' rfl (by omega) p (p + 4) (by omega) (by omega)
   obtain ⟨u1, hu1, a1⟩ := cut_mid va' rfl (by omega) (p + 4) (p + 8) (by omega) (by omega)
   obtain ⟨u2, hu2, a2⟩ := cut_mid va' rfl (by omega) (p + 8) (p + 12) (by omega) (by omega)
   have s0 : ∀ w, Sem.run Tryz.prog (Instr.slice 40 (.slice va rs.length vc) (some (.int .i64 (p : Int))) (some (.int .i64 ((p : Int) + 4))) none) w = .ok u0 w := by have := hu0; push_cast at this; exact this
   have s1 : ∀ w, Sem.run Tryz.prog (Instr.slice 40 (.slice va rs.length vc) (some (.int .i64 ((p : Int) + 4))) (some (.int .i64 ((p : Int) + 8))) none) w = .ok u1 w := by have := hu1; push_cast at this; exact this
   have s2 : ∀ w, Sem.run Tryz.prog (Instr.slice 40 (.slice va rs.length vc) (some (.int .i64 ((p : Int) + 8))) (some (.int .i64 ((p : Int) + 12))) none) w = .ok u2 w := by have := hu2; push_cast at this; exact this
   have ec : cutAt 12 rs j = (rs.drop p).take 12 := by unfold cutAt; rw [hp]
   obtain ⟨t0, ht0⟩ : ∃ t0, numOf ((rs.drop p).take 4) = t0 := ⟨_, rfl⟩
   obtain ⟨t1, ht1⟩ : ∃ t1, numOf ((rs.drop (p + 4)).take 4) = t1 := ⟨_, rfl⟩
   obtain ⟨t2, ht2⟩ : ∃ t2, numOf ((rs.drop (p + 8)).take 4) = t2 := ⟨_, rfl⟩
   have HKJ : Hid (rdKey (cutAt 12 rs j) = ⟨t0, t1, t2⟩) := by
    show _ = _
    rw [ec, ← ht0, ← ht1, ← ht2]
    unfold rdKey
    rw [List.take_take, List.drop_take, List.take_take, List.drop_take, List.take_take, List.drop_drop, List.drop_drop]
    simp
   have tb0 : 0 ≤ t0 ∧ t0 < 4294967296 := by rw [← ht0]; exact numOf_small4 (by simp; omega) (fun z hz => HBY.out z (List.mem_of_mem_drop (List.mem_of_mem_take hz)))
   have N0 := pnumber_any u0 _ wr a0 (fun z hz => HBY.out z (List.mem_of_mem_drop (List.mem_of_mem_take hz))) (by simp; omega)
   have N1 := pnumber_any u1 _ wr.drew (a1.keepN ((Touch.refl _ _).drew)) (fun z hz => HBY.out z (List.mem_of_mem_drop (List.mem_of_mem_take hz))) (by simp; omega)
   have N2 := pnumber_any u2 _ wr.drew (a2.keepN ((Touch.refl _ _).drew)) (fun z hz => HBY.out z (List.mem_of_mem_drop (List.mem_of_mem_take hz))) (by simp; omega)
   rw [show p + 4 - p = 4 by omega, ht0] at N0
   rw [show p + 8 - (p + 4) = 4 by omega, ht1] at N1
   rw [show p + 12 - (p + 8) = 4 by omega, ht2] at N2
   have hw4 : wrap64 ((p : Int) + 4) = (p : Int) + 4 := by unfold wrap64; omega
   have hw8 : wrap64 ((p : Int) + 8) = (p : Int) + 8 := by unfold wrap64; omega
   have hw12 : wrap64 ((p : Int) + 12) = (p : Int) + 12 := by unfold wrap64; omega
   have hx4 : IntKind.i64.wrap ((p : Int) + 4) = (p : Int) + 4 := by simp [IntKind.wrap, IntKind.bits, IntKind.signed]; omega
   have hx8 : IntKind.i64.wrap ((p : Int) + 8) = (p : Int) + 8 := by simp [IntKind.wrap, IntKind.bits, IntKind.signed]; omega
   have hx12 : IntKind.i64.wrap ((p : Int) + 12) = (p : Int) + 12 := by simp [IntKind.wrap, IntKind.bits, IntKind.signed]; omega
   clear hu0 hu1 hu2 a0 a1 a2 va' ec ht0 ht1 ht2 hvb hsm hrel hp hmm
   go_wp2_with fail
   refine Calls.mono N0 ?_
   rintro e wz ⟨rfl, rfl⟩
   clear N0
   by_cases h255 : t0 ≤ 255
   ·have h255' : ¬ 255 < t0 := by omega
    have hu8 : IntKind.u8.wrap t0 = t0 := by simp [IntKind.wrap, IntKind.bits, IntKind.signed]; omega
    have HT0 : Hid (t0 ≤ 255) := h255
    go_upto_region 10 with fail
    have O5 : Hid ((wr.drew.alloc (.cells #[.int .u8 t0, .int .u32 t1, .int .u32 t2] 125)).ownsRow w.heap.size 125 3 (.slice la j lc) j (keysC ((List.range j).map fun i => rdKey (cutAt 12 rs i)))) := own_touch HVB.out.own ((Touch.refl (fun _ => False) _).drew.alloc _) (fun _ _ f => f)
    have LC : Hid (∀ i u, [.int .u8 t0, .int .u32 t1, .int .u32 t2][i]? = some u → (wr.drew.alloc (.cells #[.int .u8 t0, .int .u32 t1, .int .u32 t2] 125)).cell? ((⟨wr.drew.heap.size, 0, none⟩ : Addr).add i) = some u) := by
     intro i u hi
     rw [add_plain, Nat.zero_add, cell_of_row _ _ i _ _ _ (heap_alloc_new wr.drew _), ← Array.getElem?_toList]
     exact hi
    have T5 : Hid (Touch (fun _ => False) w wr.drew) := HVB.out.t.drew
    have SZ5 : Hid (w.heap.size ≤ (wr.drew.alloc (.cells #[.int .u8 t0, .int .u32 t1, .int .u32 t2] 125)).heap.size) := (T5.out.alloc _).size
    have hTr : True := trivial
    refine wp_region_held_drew (S := fun w' => True) (by kernel_rfl) hTr (fun hHeld => ?_)
    refine wpAnyH_take (i := 0) (oi := ⟨some 25, _, _, _, _, _⟩) (v := .slice la j lc) rfl (by kernel_rfl) (by kernel_rfl) (by kernel_rfl) (fun _ _ _ h => h) (Or.inl ⟨by rfl, fun w hw => by go_simp⟩) (by assumption) ?_
    simp only [Act.put, List.setIfInBounds_toArray, List.set_cons_zero, List.set_cons_succ]
    refine wpAnyH_take (i := 1) (oi := ⟨some 26, _, _, _, _, _⟩) (v := .int .u32 t0) rfl (by kernel_rfl) (by kernel_rfl) (by kernel_rfl) (fun _ _ _ h => h) (Or.inl ⟨by rfl, fun w hw => by go_simp⟩) (by assumption) ?_
    simp only [Act.put, List.setIfInBounds_toArray, List.set_cons_zero, List.set_cons_succ]
    refine wpAnyH_take (i := 2) (oi := ⟨some 27, _, _, _, _, _⟩) (v := .int .u8 t0) rfl (by kernel_rfl) (by kernel_rfl) (by kernel_rfl) (fun _ _ _ h => h) (Or.inl ⟨by rfl, fun w hw => by go_simp⟩) (by assumption) ?_
    simp only [Act.put, List.setIfInBounds_toArray, List.set_cons_zero, List.set_cons_succ]
    refine wpAnyH_take (i := 3) (oi := ⟨some 28, _, _, _, _, _⟩) (v := .slice va rs.length vc) rfl (by kernel_rfl) (by kernel_rfl) (by kernel_rfl) (fun _ _ _ h => h) (Or.inl ⟨by rfl, fun w hw => by go_simp⟩) (by assumption) ?_
    simp only [Act.put, List.setIfInBounds_toArray, List.set_cons_zero, List.set_cons_succ]
    refine wpAnyH_take (i := 4) (oi := ⟨some 29, _, _, _, _, _⟩) (v := .int .i64 (p : Int)) rfl (by kernel_rfl) (by kernel_rfl) (by kernel_rfl) (fun _ _ _ h => h) (Or.inl ⟨by rfl, fun w hw => by go_simp⟩) (by assumption) ?_
    simp only [Act.put, List.setIfInBounds_toArray, List.set_cons_zero, List.set_cons_succ]
    refine wpAnyH_take (i := 5) (oi := ⟨some 30, _, _, _, _, _⟩) (v := .int .i64 ((p : Int) + 4)) rfl (by kernel_rfl) (by kernel_rfl) (by kernel_rfl) (fun _ _ _ h => h) (Or.inl ⟨by rfl, fun w hw => by go_simp⟩) (by assumption) ?_
    simp only [Act.put, List.setIfInBounds_toArray, List.set_cons_zero, List.set_cons_succ]
    refine wpAnyH_take (i := 6) (oi := ⟨some 31, _, _, _, _, _⟩) (v := .int .i64 (p : Int)) rfl (by kernel_rfl) (by kernel_rfl) (by kernel_rfl) (fun _ _ _ h => h) (Or.inl ⟨by rfl, fun w hw => by go_simp⟩) (by assumption) ?_
    simp only [Act.put, List.setIfInBounds_toArray, List.set_cons_zero, List.set_cons_succ]
    refine wpAnyH_take (i := 7) (oi := ⟨some 32, _, _, _, _, _⟩) (v := .int .i64 ((p : Int) + 8)) rfl (by kernel_rfl) (by kernel_rfl) (by kernel_rfl) (fun _ _ _ h => h) (Or.inl ⟨by rfl, fun w hw => by go_simp⟩) (by assumption) ?_
    simp only [Act.put, List.setIfInBounds_toArray, List.set_cons_zero, List.set_cons_succ]
    refine wpAnyH_take (i := 8) (oi := ⟨some 33, _, _, _, _, _⟩) (v := u1) rfl (by kernel_rfl) (by kernel_rfl) (by kernel_rfl) (fun _ _ _ h => h) (Or.inl ⟨by rfl, fun w hw => by go_simp⟩) (by assumption) ?_
    simp only [Act.put, List.setIfInBounds_toArray, List.set_cons_zero, List.set_cons_succ]
    refine wpAnyH_take (i := 10) (oi := ⟨some 35, _, _, _, _, _⟩) (v := .slice va rs.length vc) rfl (by kernel_rfl) (by kernel_rfl) (by kernel_rfl) (fun _ _ _ h => h) (Or.inl ⟨by rfl, fun w hw => by go_simp⟩) (by assumption) ?_
    simp only [Act.put, List.setIfInBounds_toArray, List.set_cons_zero, List.set_cons_succ]
    refine wpAnyH_take (i := 11) (oi := ⟨some 36, _, _, _, _, _⟩) (v := .int .i64 (p : Int)) rfl (by kernel_rfl) (by kernel_rfl) (by kernel_rfl) (fun _ _ _ h => h) (Or.inl ⟨by rfl, fun w hw => by go_simp⟩) (by assumption) ?_
    simp only [Act.put, List.setIfInBounds_toArray, List.set_cons_zero, List.set_cons_succ]
    refine wpAnyH_take (i := 12) (oi := ⟨some 37, _, _, _, _, _⟩) (v := .int .i64 ((p : Int) + 8)) rfl (by kernel_rfl) (by kernel_rfl) (by kernel_rfl) (fun _ _ _ h => h) (Or.inl ⟨by rfl, fun w hw => by go_simp⟩) (by assumption) ?_
    simp only [Act.put, List.setIfInBounds_toArray, List.set_cons_zero, List.set_cons_succ]
    refine wpAnyH_take (i := 13) (oi := ⟨some 38, _, _, _, _, _⟩) (v := .int .i64 (p : Int)) rfl (by kernel_rfl) (by kernel_rfl) (by kernel_rfl) (fun _ _ _ h => h) (Or.inl ⟨by rfl, fun w hw => by go_simp⟩) (by assumption) ?_
    simp only [Act.put, List.setIfInBounds_toArray, List.set_cons_zero, List.set_cons_succ]
    refine wpAnyH_take (i := 14) (oi := ⟨some 39, _, _, _, _, _⟩) (v := .int .i64 ((p : Int) + 12)) rfl (by kernel_rfl) (by kernel_rfl) (by kernel_rfl) (fun _ _ _ h => h) (Or.inl ⟨by rfl, fun w hw => by go_simp⟩) (by assumption) ?_
    simp only [Act.put, List.setIfInBounds_toArray, List.set_cons_zero, List.set_cons_succ]
    refine wpAnyH_take (i := 15) (oi := ⟨some 40, _, _, _, _, _⟩) (v := u2) rfl (by kernel_rfl) (by kernel_rfl) (by kernel_rfl) (fun _ _ _ h => h) (Or.inl ⟨by rfl, fun w hw => by go_simp⟩) (by assumption) ?_
    simp only [Act.put, List.setIfInBounds_toArray, List.set_cons_zero, List.set_cons_succ]
    refine wpAnyH_ready (rs := [9]) (by kernel_rfl) (by simp) ?_
    refine AllReadyH.cons (o := ⟨some 34, _, _, _, _, _⟩) rfl (fun K hK => ?_) AllReadyH.nil
    go_simp
    refine Calls.mono (N1) ?_
    rintro e wx ⟨rfl, rfl⟩
    refine hK.out _ _ trivial (fun hHeld => ?_)
    clear hK K
    refine wpAnyH_ready (rs := [16]) (by kernel_rfl) (by simp) ?_
    refine AllReadyH.cons (o := ⟨some 41, _, _, _, _, _⟩) rfl (fun K hK => ?_) AllReadyH.nil
    go_simp
    refine Calls.mono (N2) ?_
    rintro e wx ⟨rfl, rfl⟩
    refine hK.out _ _ trivial (fun hHeld => ?_)
    clear hK K
    refine wpAnyH_take (i := 17) (oi := ⟨some 42, _, _, _, _, _⟩) (v := .agg #[.int .u8 t0, .int .u32 t1, .int .u32 t2]) rfl (by kernel_rfl) (by kernel_rfl) (by kernel_rfl) (fun _ _ _ h => h) (Or.inl ⟨by rfl, fun w hw => by go_simp⟩) (by assumption) ?_
    simp only [Act.put, List.setIfInBounds_toArray, List.set_cons_zero, List.set_cons_succ]
    refine wpAnyH_ready (rs := [18]) (by kernel_rfl) (by simp) ?_
    refine AllReadyH.cons (o := ⟨some 43, _, _, _, _, _⟩) rfl (fun K hK => ?_) AllReadyH.nil
    go_simp
    refine hK.out _ _ trivial (fun hHeld => ?_)
    clear hK K
    refine wpAnyH_ready (rs := [19]) (by kernel_rfl) (by simp) ?_
    refine AllReadyH.cons (o := ⟨some 44, _, _, _, _, _⟩) rfl (fun K hK => ?_) AllReadyH.nil
    refine step_own (by rfl) (.tmp 25) (.tmp 43) 30 (by rfl) w.heap.size 125 (.agg #[.int .u8 0, .int .u32 0, .int .u32 0]) 3 12 Tryz.underlying30 Tryz.infoK3 rfl (by decide) (by decide) (.slice la j lc) j _ (by rfl) O5.out ⟨wr.drew.heap.size, 0, none⟩ 1 1 [.int .u8 t0, .int .u32 t1, .int .u32 t2] (by rfl) rfl LC.out (by simp [Value.oneCell']) (by omega) SZ5.out ?_
    intro l' w7 o7 t7
    obtain ⟨la7, lc7, el⟩ := own_form o7
    subst el
    refine hK.out _ _ trivial (fun hHeld => ?_)
    clear hK K
    refine wpAnyH_take (i := 20) (oi := ⟨some 4, _, _, _, _, _⟩) (v := .slice la7 (j + 1) lc7) rfl (by kernel_rfl) (by kernel_rfl) (by kernel_rfl) (fun _ _ _ h => h) (Or.inl ⟨by rfl, fun w hw => by go_simp⟩) (by assumption) ?_
    simp only [Act.put, List.setIfInBounds_toArray, List.set_cons_zero, List.set_cons_succ]
    refine wpAnyH_done (by kernel_rfl) ?_ _
    have REL : Hid (DkR w rs (rs.length / 12 - (j + 1)) (.slice la7 (j + 1) lc7) (.int .i64 ((p : Int) + 12)) w7) := by
     have hP := HP.out
     refine ⟨j + 1, la7, lc7, by omega, rfl, by rw [hP]; first | rfl | (congr 1; first | done | (push_cast; first | done | omega)), rfl, ?_, ?_⟩
     ·have e : keysC ((List.range (j + 1)).map fun i => rdKey (cutAt 12 rs i)) = keysC ((List.range j).map fun i => rdKey (cutAt 12 rs i)) ++ [.int .u8 t0, .int .u32 t1, .int .u32 t2] := by
       rw [range_snoc, HKJ.out]
       simp [keysC, KV.cells]
      rw [e]
      exact ⟨o7, (T5.out.alloc _).trans' t7 (fun i hi e => by have := (O5.out.lt i e).1; omega)⟩
     ·intro i hi
      rcases Nat.lt_or_ge i j with h | h
      ·exact HSM.out i h
      ·obtain rfl : i = j := by omega
       rw [HKJ.out]
       exact HT0.out
    clear o7 t7
    go_wp2_with fail
    go_roundg (rs.length / 12 - (j + 1))
    case measure => omega
    case rel => exact REL.out
   ·have h255' : 255 < t0 := by omega
    have hEk : kE rs = 24 := by
     unfold kE
     rw [if_pos HM.out, if_neg]
     intro h
     have := List.all_eq_true.1 h (rdKey (cutAt 12 rs j)) (by rw [← cuts_all]; exact List.mem_map_of_mem (List.mem_range.2 hjn))
     rw [HKJ.out] at this
     exact absurd (of_decide_eq_true this) (by show ¬ t0 ≤ 255; omega)
    have FIN : Hid (DkP w rs (.returned (.tuple #[.slice none 0 0, .int .i64 24])) wr) := ⟨HVB.out.t, .slice none 0 0, by rw [hEk], (fun h => by omega), ⟨_, _, _, rfl⟩⟩
    clear hEk N1 N2
    go_wp2_with fail
    go_ret2
    exact FIN.out
  ·have hlt' : ¬ (p : Int) < (rs.length : Int) := by omega
   have hjn : j = rs.length / 12 := by omega
   have hEk : kE rs = 0 := by
    unfold kE
    rw [if_pos HM.out, if_pos]
    refine List.all_eq_true.2 (fun k hk => ?_)
    obtain ⟨i, hi, rfl⟩ := mem_cuts hk
    exact decide_eq_true (hsm i (by omega))
   have FIN : Hid (DkP w rs (.returned (.tuple #[.slice la j lc, .int .i64 0])) wr) := ⟨HVB.out.t, .slice la j lc, by rw [hEk], (fun h => by rw [length_cuts, ← hjn, ← cuts_all, ← hjn]; exact HVB.out), ⟨_, _, _, rfl⟩⟩
   clear hEk hjn hvb hsm hp hmm hrel HVB HSM HP
   go_wp2_with fail
   go_ret2
   exact FIN.out
end Go.Proofs.YtbfplepmgbkajaaGreatDoor
