/- Rows of words, heads, keys and states: copied, and the same. -/
import Derived.Test.YtjjgbcjgmjggnaaGreatStCopy
import Derived.Test.YtjjgbcjgmjggnaaGreatStRow0
import Derived.Stop.BytesEq
import Derived.Deep.QuietTactic
import Derived.Test.YtjjgbcjgmjggnaaGreatStRead3
import Derived.Deep.MidRow
import Derived.Test.YtjjgbcjgmjggnaaGreatPkSeal
import Derived.Deep.RegionHeld3
import Derived.Deep.DeepCutAuto
import Derived.Deep.RegionHeld2
namespace Go.Proofs.YtjjgbcjgmjggnaaGreat
open Go.RowKit
set_option linter.unusedVariables false
set_option maxRecDepth 100000

section
variable {ops : Array Oper} {rest : List Oper} {o : Oper} {a : Act} {Q : Exit → Act → World → Prop} {w : World}
/-- append(p, x...), of any element type, to a row of one's own. -/
theorem vapp_own2 (hgd : o.guard = none) (s x : Operand) (t : TypeId) (ho : o.op = .call { callee := .builtin .append, args := #[s, x], argTypes := #[t, t] })
    (e k bytes : Nat) (z : Value) (ht : Tryz.prog.underlying t = some (.slice e)) (hi : (Tryz.prog.info? e).map (fun i => (i.zero, i.size, i.bytes)) = some (some z, k, bytes)) (hzs : z.cells.size = k) (hk : 0 < k) (hby : bytes ≤ 64)
    (base : Nat) (v : Value) (n : Nat) (xs : List Value) (hs : a.eval s = v) (hb : w.ownsRow base e k v n xs) (hbase : base ≤ w.heap.size) (ad : Addr) (m c : Nat) (news : List Value) (hx : a.eval x = .slice (some ad) m c) (hnl : news.length = m * k) (hr : ∀ j u, news[j]? = some u → w.cell? (ad.add j) = some u) (h1 : ∀ u ∈ news, u.oneCell' = true) (hl : n + m ≤ 1099511627776)
    (h : ∀ v' w', w'.ownsRow base e k v' (n + m) (xs ++ news) → Touch (fun j => v.ownBlock = some j) w w' → wpList Tryz.prog ops Q rest (a.put o.dst v') w') : wpList Tryz.prog ops Q (o :: rest) a w := by
  obtain ⟨i0, hi, hz0, hz1, hz2⟩ := info_parts hi
  have hmul : (n + m) * bytes ≤ 1099511627776 * 64 := Nat.mul_le_mul hl hby
  refine wpList_append_own_at w hgd s x t ho base e i0 z k bytes ht hi hz0 hz1 hz2 hzs hk v n xs hs hb ad m c news hx hnl hr h1 (by unfold maxLen; omega) (by omega) hbase ?_
  intro v' w' hown hg _ _
  exact h v' w' hown ((Touch.refl _ _).grown hg (fun k hk => Or.inl hk))
end
theorem oneCell_headsC (l : List HV) : ∀ u ∈ headsC l, u.oneCell' = true := by
  intro u hu
  obtain ⟨x, _, hu⟩ := List.mem_flatMap.1 hu
  simp [HV.cells] at hu
  rcases hu with rfl | rfl | rfl | rfl | rfl | rfl | rfl | rfl <;> rfl
theorem oneCell_keysC (l : List KV) : ∀ u ∈ keysC l, u.oneCell' = true := by
  intro u hu
  obtain ⟨x, _, hu⟩ := List.mem_flatMap.1 hu
  simp [KV.cells] at hu
  rcases hu with rfl | rfl | rfl <;> rfl
theorem cwordsP (v : Value) (l : List Int) (w : World) (hv : WordsAt w v l) (hl : l.length ≤ 1000000) : Calls Tryz.prog 67 #[v] w fun e w' => ∃ u, e = .returned u ∧ VBuf 22 1 w w' u l.length (wordsC l) := by
  have HV' : Hid (WordsAt w v l) := hv
  clear hv
  go_enter Tryz.func67, Tryz.ntmps67
  go_wp2_with (at_builtin; refine vapp_arg rfl (.tmp 4) (.tmp 5) 24 rfl 22 1 4 (.int .u32 0) Tryz.underlying24 Tryz.infoU4 rfl (by decide) (by decide) w (.slice none 0 0) 0 [] rfl (VBuf.nil _ _ (Touch.refl _ _)) v l.length (wordsC l) rfl HV'.out (oneCell_wordsC l) (by omega) ?_)
  intro v' w' b
  obtain ⟨xa, xc, rfl⟩ := b.form
  have B : Hid (VBuf 22 1 w w' (.slice xa l.length xc) l.length (wordsC l)) := b
  clear b
  go_wp2
  go_ret
  exact ⟨_, rfl, B.out⟩
theorem cheadsP (v : Value) (l : List HV) (w : World) (hv : HeadsAt w v l) (hl : l.length ≤ 1000000) : Calls Tryz.prog 35 #[v] w fun e w' => ∃ u, e = .returned u ∧ VBuf 93 8 w w' u l.length (headsC l) := by
  have HV' : Hid (HeadsAt w v l) := hv
  clear hv
  go_enter Tryz.func35, Tryz.ntmps35
  go_wp2_with (at_builtin; refine vapp_arg rfl (.tmp 4) (.tmp 5) 27 rfl 93 8 20 (.agg #[.int .u16 0, .int .u8 0, .int .u8 0, .int .u32 0, .int .u32 0, .int .i32 0, .int .u16 0, .int .u16 0]) Tryz.underlying27 Tryz.infoH8 rfl (by decide) (by decide) w (.slice none 0 0) 0 [] rfl (VBuf.nil _ _ (Touch.refl _ _)) v l.length (headsC l) rfl HV'.out (oneCell_headsC l) (by omega) ?_)
  intro v' w' b
  obtain ⟨xa, xc, rfl⟩ := b.form
  have B : Hid (VBuf 93 8 w w' (.slice xa l.length xc) l.length (headsC l)) := b
  clear b
  go_wp2
  go_ret
  exact ⟨_, rfl, B.out⟩
theorem ckeysP (v : Value) (l : List KV) (w : World) (hv : KeysAt w v l) (hl : l.length ≤ 1000000) : Calls Tryz.prog 33 #[v] w fun e w' => ∃ u, e = .returned u ∧ VBuf 148 3 w w' u l.length (keysC l) := by
  have HV' : Hid (KeysAt w v l) := hv
  clear hv
  go_enter Tryz.func33, Tryz.ntmps33
  go_wp2_with (at_builtin; refine vapp_arg rfl (.tmp 4) (.tmp 5) 30 rfl 148 3 12 (.agg #[.int .u8 0, .int .u32 0, .int .u32 0]) Tryz.underlying30 Tryz.infoK3 rfl (by decide) (by decide) w (.slice none 0 0) 0 [] rfl (VBuf.nil _ _ (Touch.refl _ _)) v l.length (keysC l) rfl HV'.out (oneCell_keysC l) (by omega) ?_)
  intro v' w' b
  obtain ⟨xa, xc, rfl⟩ := b.form
  have B : Hid (VBuf 148 3 w w' (.slice xa l.length xc) l.length (keysC l)) := b
  clear b
  go_wp2
  go_ret
  exact ⟨_, rfl, B.out⟩
/-- The loop of copied states. -/
structure CsR (ks : List SE) (w : World) (gg : Nat) (s3 s4 : Value) (wr : World) : Prop where
  out : ∃ (j : Nat) (l : List SE) (sa : Option Addr) (sc : Nat), j ≤ ks.length ∧ gg = ks.length - j ∧ s4 = .int .i64 (j : Int) ∧ s3 = .slice sa j sc ∧ l.map SE.p = (ks.take j).map SE.p ∧ l.length = j ∧ wr.ownsRow w.heap.size 95 9 (.slice sa j sc) j (statesC l) ∧ (∀ x ∈ l, wr.ownsRow w.heap.size 5 1 x.v x.rs.length (bytesOf x.rs)) ∧ Touch (fun _ => False) w wr
set_option maxHeartbeats 2000000 in
theorem cstatesP (v : Value) (ks : List SE) (w : World) (hv : StatesAt w v ks) (hn : ks.length ≤ 1000000) (hr : ∀ x ∈ ks, x.rs.length ≤ 1000000) :
    Calls Tryz.prog 34 #[v] w fun e w' => ∃ u, e = .returned u ∧ Touch (fun _ => False) w w' ∧ ∃ l : List SE, l.map SE.p = ks.map SE.p ∧ w'.ownsRow w.heap.size 95 9 u l.length (statesC l) ∧ ∀ x ∈ l, w'.ownsRow w.heap.size 5 1 x.v x.rs.length (bytesOf x.rs) := by
  obtain ⟨va, vc, rfl, hmx⟩ := ValsAt.form hv.vals
  have HV' : Hid (∀ w', Touch (fun _ => False) w w' → StatesAt w' (.slice va ks.length vc) ks) := fun w' t => hv.keep t
  have HR : Hid (∀ x ∈ ks, x.rs.length ≤ 1000000) := hr
  have hmx' : (ks.length : Int) ≤ 1000000 := by omega
  clear hv hr hmx hn
  go_enter Tryz.func34, Tryz.ntmps34
  go_wp2_with fail
  go_loopg [3, 4] ks.length (fun gg s3 s4 wr => CsR ks w gg s3 s4 wr)
  case atStart => exact ⟨0, [], none, 0, by omega, by omega, rfl, rfl, rfl, rfl, own_nil _ _ _ _, (fun x hx => by cases hx), Touch.refl _ _⟩
  case round =>
    obtain ⟨j, l, sa, sc, hj, hgg, rfl, rfl, hlm, hll, ow, ob, tw⟩ := hrel.out
    have OW : Hid (wr.ownsRow w.heap.size 95 9 (.slice sa j sc) j (statesC l)) := ow
    have OB : Hid (∀ x ∈ l, wr.ownsRow w.heap.size 5 1 x.v x.rs.length (bytesOf x.rs)) := ob
    have TW : Hid (Touch (fun _ => False) w wr) := tw
    have HLM : Hid (l.map SE.p = (ks.take j).map SE.p ∧ l.length = j) := ⟨hlm, hll⟩
    clear hrel ow ob tw hlm hll
    by_cases hlt : j < ks.length
    · have hlt' : (j : Int) < (ks.length : Int) := by omega
      have hk00 : (0 : Int) ≤ (j : Int) := by omega
      obtain ⟨x, hx⟩ : ∃ x, ks[j]? = some x := ⟨ks[j], by simp [hlt]⟩
      obtain ⟨ox, gR, off, cR, eR, hcell⟩ := StatesAt.one (HV'.out wr TW.out) hx
      obtain ⟨xa, xc, ex, -⟩ := ox.arg.form
      cases eR
      have e0 : wr.cell? ⟨gR, off + j * 9, none⟩ = some (.int .u16 x.h.age) := by exact hcell 0 _ rfl
      have e1 : wr.cell? ⟨gR, off + j * 9 + 1, none⟩ = some (.int .u8 x.h.opts) := by rw [Nat.add_assoc]; exact hcell 1 _ rfl
      have e2 : wr.cell? ⟨gR, off + j * 9 + 2, none⟩ = some (.int .u8 x.h.typ) := by rw [Nat.add_assoc]; exact hcell 2 _ rfl
      have e3 : wr.cell? ⟨gR, off + j * 9 + 3, none⟩ = some (.int .u32 x.h.id) := by rw [Nat.add_assoc]; exact hcell 3 _ rfl
      have e4 : wr.cell? ⟨gR, off + j * 9 + 4, none⟩ = some (.int .u32 x.h.adv) := by rw [Nat.add_assoc]; exact hcell 4 _ rfl
      have e5 : wr.cell? ⟨gR, off + j * 9 + 5, none⟩ = some (.int .i32 x.h.seq) := by rw [Nat.add_assoc]; exact hcell 5 _ rfl
      have e6 : wr.cell? ⟨gR, off + j * 9 + 6, none⟩ = some (.int .u16 x.h.sum) := by rw [Nat.add_assoc]; exact hcell 6 _ rfl
      have e7 : wr.cell? ⟨gR, off + j * 9 + 7, none⟩ = some (.int .u16 x.h.len) := by rw [Nat.add_assoc]; exact hcell 7 _ rfl
      have e8 : wr.cell? ⟨gR, off + j * 9 + 8, none⟩ = some (.slice xa x.rs.length xc) := by rw [← ex]; rw [Nat.add_assoc]; exact hcell 8 _ rfl
      have hkw : wrap64 ((j : Int) + 1) = (j : Int) + 1 := by unfold wrap64; omega
      have HX : Hid ((ks.take (j + 1)).map SE.p = (ks.take j).map SE.p ++ [x.p]) := by show _ = _; rw [List.take_add_one, hx, List.map_append]; rfl
      have HM : Calls Tryz.prog 68 #[.agg #[.int .u16 x.h.age, .int .u8 x.h.opts, .int .u8 x.h.typ, .int .u32 x.h.id, .int .u32 x.h.adv, .int .i32 x.h.seq, .int .u16 x.h.sum, .int .u16 x.h.len, .slice xa x.rs.length xc]] wr fun e w' => ∃ u, e = .returned (x.h.sv u) ∧ Buf wr w' u x.rs := cstate_any x.h (.slice xa x.rs.length xc) x.rs wr (by rw [← ex]; exact ox.arg) (HR.out x (List.mem_of_getElem? hx))
      clear hcell hx ox ex
      unfold HV.sv at HM
      go_wp2_with fail
      refine Calls.mono HM ?_
      rintro e w2 ⟨u2, rfl, b2⟩
      obtain ⟨ua, uc, rfl⟩ := b2.form
      have O2 : Hid (w2.ownsRow w.heap.size 95 9 (.slice sa j sc) j (statesC l)) := own_touch OW.out b2.t (fun _ _ f => f)
      have OWL : Hid (∀ k, (Value.slice sa j sc).ownBlock = some k → k < wr.heap.size) := fun k hk => (OW.out.lt k hk).2
      have OB2 : Hid (∀ x ∈ l, w2.ownsRow w.heap.size 5 1 x.v x.rs.length (bytesOf x.rs)) := fun x hx => own_touch (OB.out x hx) b2.t (fun _ _ f => f)
      have U2 : Hid (w2.ownsRow wr.heap.size 5 1 (.slice ua x.rs.length uc) x.rs.length (bytesOf x.rs)) := b2.own
      have T2 : Hid (Touch (fun _ => False) w w2) := TW.out.trans b2.t
      have ZZ : Hid (w.heap.size ≤ wr.heap.size ∧ wr.heap.size ≤ w2.heap.size) := ⟨TW.out.size, b2.t.size⟩
      clear HM e0 e1 e2 e3 e4 e5 e6 e7 e8 b2 OW OB TW
      go_wp2_with (at_builtin; refine vapp_own2 rfl (.tmp 11) (.tmp 17) 31 rfl 95 9 48 (.agg #[.int .u16 0, .int .u8 0, .int .u8 0, .int .u32 0, .int .u32 0, .int .i32 0, .int .u16 0, .int .u16 0, .slice none 0 0]) Tryz.underlying31 Tryz.infoS9 rfl (by decide) (by decide) w.heap.size (.slice sa j sc) j _ rfl (O2.out.alloc _) (by have := ZZ.out; simp; omega) ⟨w2.heap.size, 0, none⟩ 1 1 [.int .u16 x.h.age, .int .u8 x.h.opts, .int .u8 x.h.typ, .int .u32 x.h.id, .int .u32 x.h.adv, .int .i32 x.h.seq, .int .u16 x.h.sum, .int .u16 x.h.len, .slice ua x.rs.length uc] rfl rfl ?c1 ?c2 ?c3 ?_)
      case c1 =>
        intro i u hi
        rw [add_plain]
        match i, hi with
        | 0, hi => cases hi; simp [go_sem]
        | 1, hi => cases hi; simp [go_sem]
        | 2, hi => cases hi; simp [go_sem]
        | 3, hi => cases hi; simp [go_sem]
        | 4, hi => cases hi; simp [go_sem]
        | 5, hi => cases hi; simp [go_sem]
        | 6, hi => cases hi; simp [go_sem]
        | 7, hi => cases hi; simp [go_sem]
        | 8, hi => cases hi; simp [go_sem]
        | i + 9, hi => simp at hi
      case c2 => intro u hu; simp at hu; rcases hu with rfl | rfl | rfl | rfl | rfl | rfl | rfl | rfl | rfl <;> rfl
      case c3 => omega
      intro v4 w4 o4 t4
      obtain ⟨sa4, sc4, ev⟩ := own_form o4
      subst ev
      have ta : Touch (fun _ => False) w2 (w2.alloc (.cells #[.int .u16 x.h.age, .int .u8 x.h.opts, .int .u8 x.h.typ, .int .u32 x.h.id, .int .u32 x.h.adv, .int .i32 x.h.seq, .int .u16 x.h.sum, .int .u16 x.h.len, .slice ua x.rs.length uc] 95)) := (Touch.refl _ _).alloc _
      have REL : Hid (CsR ks w (ks.length - (j + 1)) (.slice sa4 (j + 1) sc4) (.int .i64 ((j + 1 : Nat) : Int)) w4) := by
        have O4 : w4.ownsRow w.heap.size 95 9 (.slice sa4 (j + 1) sc4) (j + 1) (statesC (l ++ [⟨x.h, .slice ua x.rs.length uc, x.rs⟩])) := by
          have e : statesC (l ++ [⟨x.h, .slice ua x.rs.length uc, x.rs⟩]) = statesC l ++ [.int .u16 x.h.age, .int .u8 x.h.opts, .int .u8 x.h.typ, .int .u32 x.h.id, .int .u32 x.h.adv, .int .i32 x.h.seq, .int .u16 x.h.sum, .int .u16 x.h.len, .slice ua x.rs.length uc] := by simp [statesC, SE.cells]
          rw [e]
          exact o4
        refine ⟨j + 1, l ++ [⟨x.h, .slice ua x.rs.length uc, x.rs⟩], sa4, sc4, by omega, rfl, rfl, rfl, ?_, by rw [List.length_append, HLM.out.2]; rfl, O4, ?_, (T2.out.trans ta).trans' t4 (fun i hi e => by have := (O2.out.lt i e).1; omega)⟩
        · rw [HX.out, List.map_append, HLM.out.1]; rfl
        · intro y hy
          rcases List.mem_append.1 hy with hy | hy
          · exact own_touch (own_touch (OB2.out y hy) ta (fun _ _ f => f)) t4 (fun k hk e => own_unlike O2.out (OB2.out y hy) (by decide) e hk)
          · obtain rfl := List.mem_singleton.1 hy
            exact own_lower (own_touch (own_touch U2.out ta (fun _ _ f => f)) t4 (fun k hk e => by have h1 := (U2.out.lt k hk).1; have h2 := OWL.out k e; omega)) ZZ.out.1
      clear o4 t4 O2 OB2 U2 T2 ta
      go_wp2_with fail
      go_roundg (ks.length - (j + 1))
      case measure => omega
      case rel => exact REL.out
    · obtain rfl : j = ks.length := by omega
      have FIN : Hid (∃ u, (Ending.returned (.slice sa ks.length sc)) = .returned u ∧ Touch (fun _ => False) w wr ∧ ∃ l : List SE, l.map SE.p = ks.map SE.p ∧ wr.ownsRow w.heap.size 95 9 u l.length (statesC l) ∧ ∀ x ∈ l, wr.ownsRow w.heap.size 5 1 x.v x.rs.length (bytesOf x.rs)) := ⟨_, rfl, TW.out, l, by rw [HLM.out.1, List.take_length], by rw [HLM.out.2]; exact OW.out, OB.out⟩
      have hlt' : ¬ (ks.length : Int) < (ks.length : Int) := by omega
      go_wp2_with fail
      go_ret
      exact FIN.out
end Go.Proofs.YtjjgbcjgmjggnaaGreat

namespace Go.Proofs.YtjjgbcjgmjggnaaGreat
open Go.RowKit
set_option linter.unusedVariables false
set_option maxRecDepth 100000

theorem Row.touch {F : Nat → Prop} {w w' : World} {g : Nat} {T : TypeId} {xs : List Value} (h : Row w g T xs) (t : Touch F w w') (hg : ¬ F g) : Row w' g T xs := (t.block g h.lt hg).trans h
theorem Row.range {w : World} {g : Nat} {T : TypeId} {xs : List Value} (h : Row w g T xs) : w.rangeAt g 0 xs := fun j v hj => by
  rw [Nat.zero_add, h.cell j]
  exact hj
theorem Row.ad {w : World} {g : Nat} {T : TypeId} {A : AuV} (h : Row w g T [.int .u16 A.kind, .int .u8 A.d0, .int .u8 A.d1, .int .u8 A.d2, .int .u8 A.d3, .int .u8 A.d4, .int .u8 A.d5, .int .u8 A.d6, .int .u8 A.d7]) : Ad w g A := ⟨h.cell 0, h.cell 1, h.cell 2, h.cell 3, h.cell 4, h.cell 5, h.cell 6, h.cell 7, h.cell 8⟩
theorem Row.room {w : World} {g : Nat} {T : TypeId} {xs : List Value} (h : Row w g T xs) : Room w g xs.length := fun i hi => ⟨xs[i], by rw [h.cell i]; simp [hi], h.frozen i⟩
end Go.Proofs.YtjjgbcjgmjggnaaGreat

namespace Go.Proofs.YtjjgbcjgmjggnaaGreat
open Go.RowKit
set_option linter.unusedVariables false
set_option maxRecDepth 100000

attribute [local go_sem ↓] Go.wp_at_zero Go.wp_at_succ
end Go.Proofs.YtjjgbcjgmjggnaaGreat

namespace Go.Proofs.YtjjgbcjgmjggnaaGreat
open Go.RowKit
set_option linter.unusedVariables false
set_option maxRecDepth 100000

attribute [local go_sem ↓] Go.wp_at_zero Go.wp_at_succ
end Go.Proofs.YtjjgbcjgmjggnaaGreat
