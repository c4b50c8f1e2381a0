/- Rows of states: copied; how large they are. -/
import Derived.Test.YtjffcflhbnmjmaaGreatOwnUn
import Derived.Test.YtjffcflhbnmjmaaGreatStRow0
import Derived.Test.YtjffcflhbnmjmaaGreatStReadAny
import Derived.Test.YtjffcflhbnmjmaaGreatWrAll2
import Derived.Deep.LoopGhost
namespace Go.Proofs.YtjffcflhbnmjmaaGreat
open Go.RowKit
set_option linter.unusedVariables false
set_option maxRecDepth 100000

abbrev STp := HV × List Int
def SE.pr (x : SE) : STp := (x.h, x.rs)
theorem infoS9g : (Tryz.prog.info? 52).map (fun i => (i.zero, i.size, i.bytes)) = some (some (.agg #[.int .u16 0, .int .u8 0, .int .u8 0, .int .u32 0, .int .u32 0, .int .i32 0, .int .u16 0, .int .u16 0, .slice none 0 0]), 9, 48) := by kernel_rfl
section
variable {ops : Array Oper} {rest : List Oper} {o : Oper} {a : Act} {Q : Exit → Act → World → Prop} {w : World}
/-- append(p, x...), of any element type, to a row of one's own. -/
theorem gapp_own2 (hgd : o.guard = none) (s x : Operand) (t : TypeId) (ho : o.op = .call { callee := .builtin .append, args := #[s, x], argTypes := #[t, t] })
    (e k bytes : Nat) (z : Value) (ht : Tryz.prog.underlying t = some (.slice e)) (hi : (Tryz.prog.info? e).map (fun i => (i.zero, i.size, i.bytes)) = some (some z, k, bytes)) (hzs : z.cells.size = k) (hk : 0 < k) (hby : bytes ≤ 64)
    (base : Nat) (v : Value) (n : Nat) (xs : List Value) (hs : a.eval s = v) (hb : w.ownsRow base e k v n xs) (hbase : base ≤ w.heap.size) (ad : Addr) (m c : Nat) (news : List Value) (hx : a.eval x = .slice (some ad) m c) (hnl : news.length = m * k) (hr : ∀ j u, news[j]? = some u → w.cell? (ad.add j) = some u) (h1 : ∀ u ∈ news, u.oneCell' = true) (hl : n + m ≤ 1099511627776)
    (h : ∀ v' w', w'.ownsRow base e k v' (n + m) (xs ++ news) → Touch (fun j => v.ownBlock = some j) w w' → wpList Tryz.prog ops Q rest (a.put o.dst v') w') : wpList Tryz.prog ops Q (o :: rest) a w := by
  obtain ⟨i0, hi, hz0, hz1, hz2⟩ := info_parts hi
  have hmul : (n + m) * bytes ≤ 1099511627776 * 64 := Nat.mul_le_mul hl hby
  refine wpList_append_own_at w hgd s x t ho base e i0 z k bytes ht hi hz0 hz1 hz2 hzs hk v n xs hs hb ad m c news hx hnl hr h1 (by unfold maxLen; omega) (by omega) hbase ?_
  intro v' w' hown hg _ _
  exact h v' w' hown ((Touch.refl _ _).grown hg (fun k hk => Or.inl hk))
end
/-- The loop of copied states. -/
structure GCsR (ks : List SE) (w : World) (gg : Nat) (s3 s4 : Value) (wr : World) : Prop where
  out : ∃ (j : Nat) (l : List SE) (sa : Option Addr) (sc : Nat), j ≤ ks.length ∧ gg = ks.length - j ∧ s4 = .int .i64 (j : Int) ∧ s3 = .slice sa j sc ∧ l.map SE.pr = (ks.take j).map SE.pr ∧ l.length = j ∧ wr.ownsRow w.heap.size 52 9 (.slice sa j sc) j (statesC l) ∧ (∀ x ∈ l, wr.ownsRow w.heap.size 5 1 x.v x.rs.length (bytesOf x.rs)) ∧ Touch (fun _ => False) w wr
set_option maxHeartbeats 2000000 in
theorem gcstates (v : Value) (ks : List SE) (w : World) (hv : StatesAt w v ks) (hn : ks.length ≤ 1000000) (hr : ∀ x ∈ ks, x.rs.length ≤ 1000000) :
    Calls Tryz.prog 17 #[v] w fun e w' => ∃ u, e = .returned u ∧ Touch (fun _ => False) w w' ∧ ∃ l : List SE, l.map SE.pr = ks.map SE.pr ∧ w'.ownsRow w.heap.size 52 9 u l.length (statesC l) ∧ ∀ x ∈ l, w'.ownsRow w.heap.size 5 1 x.v x.rs.length (bytesOf x.rs) := by
  obtain ⟨va, vc, rfl, hmx⟩ := ValsAt.form hv.vals
  have HV' : Hid (∀ w', Touch (fun _ => False) w w' → StatesAt w' (.slice va ks.length vc) ks) := fun w' t => hv.keep t
  have HR : Hid (∀ x ∈ ks, x.rs.length ≤ 1000000) := hr
  have hmx' : (ks.length : Int) ≤ 1000000 := by omega
  clear hv hr hmx hn
  go_enter Tryz.func17, Tryz.ntmps17
  go_wp2_with fail
  go_loopg [3, 4] ks.length (fun gg s3 s4 wr => GCsR ks w gg s3 s4 wr)
  case atStart => exact ⟨0, [], none, 0, by omega, by omega, rfl, rfl, rfl, rfl, World.ownsRow_nil _ _ _ _, (fun x hx => by cases hx), Touch.refl _ _⟩
  case round =>
    obtain ⟨j, l, sa, sc, hj, hgg, rfl, rfl, hlm, hll, ow, ob, tw⟩ := hrel.out
    have OW : Hid (wr.ownsRow w.heap.size 52 9 (.slice sa j sc) j (statesC l)) := ow
    have OB : Hid (∀ x ∈ l, wr.ownsRow w.heap.size 5 1 x.v x.rs.length (bytesOf x.rs)) := ob
    have TW : Hid (Touch (fun _ => False) w wr) := tw
    have HLM : Hid (l.map SE.pr = (ks.take j).map SE.pr ∧ l.length = j) := ⟨hlm, hll⟩
    clear hrel ow ob tw hlm hll
    by_cases hlt : j < ks.length
    · have hlt' : (j : Int) < (ks.length : Int) := by omega
      have hk00 : (0 : Int) ≤ (j : Int) := by omega
      obtain ⟨x, hx⟩ : ∃ x, ks[j]? = some x := ⟨ks[j], by simp [hlt]⟩
      obtain ⟨ox, gR, off, cR, eR, hcell⟩ := StatesAt.one (HV'.out wr TW.out) hx
      obtain ⟨xa, xc, ex, -⟩ := ox.arg.form
      cases eR
      have e0 : wr.cell? ⟨gR, off + j * 9, none⟩ = some (.int .u16 x.h.age) := by exact hcell 0 _ rfl
      have e1 : wr.cell? ⟨gR, off + j * 9 + 1, none⟩ = some (.int .u8 x.h.opts) := by rw [Nat.add_assoc]; exact hcell 1 _ rfl
      have e2 : wr.cell? ⟨gR, off + j * 9 + 2, none⟩ = some (.int .u8 x.h.typ) := by rw [Nat.add_assoc]; exact hcell 2 _ rfl
      have e3 : wr.cell? ⟨gR, off + j * 9 + 3, none⟩ = some (.int .u32 x.h.id) := by rw [Nat.add_assoc]; exact hcell 3 _ rfl
      have e4 : wr.cell? ⟨gR, off + j * 9 + 4, none⟩ = some (.int .u32 x.h.adv) := by rw [Nat.add_assoc]; exact hcell 4 _ rfl
      have e5 : wr.cell? ⟨gR, off + j * 9 + 5, none⟩ = some (.int .i32 x.h.seq) := by rw [Nat.add_assoc]; exact hcell 5 _ rfl
      have e6 : wr.cell? ⟨gR, off + j * 9 + 6, none⟩ = some (.int .u16 x.h.sum) := by rw [Nat.add_assoc]; exact hcell 6 _ rfl
      have e7 : wr.cell? ⟨gR, off + j * 9 + 7, none⟩ = some (.int .u16 x.h.len) := by rw [Nat.add_assoc]; exact hcell 7 _ rfl
      have e8 : wr.cell? ⟨gR, off + j * 9 + 8, none⟩ = some (.slice xa x.rs.length xc) := by rw [← ex]; rw [Nat.add_assoc]; exact hcell 8 _ rfl
      have hkw : wrap64 ((j : Int) + 1) = (j : Int) + 1 := by unfold wrap64; omega
      have HX : Hid ((ks.take (j + 1)).map SE.pr = (ks.take j).map SE.pr ++ [x.pr]) := by show _ = _; rw [List.take_add_one, hx, List.map_append]; rfl
      have HM : Calls Tryz.prog 19 #[.agg #[.int .u16 x.h.age, .int .u8 x.h.opts, .int .u8 x.h.typ, .int .u32 x.h.id, .int .u32 x.h.adv, .int .i32 x.h.seq, .int .u16 x.h.sum, .int .u16 x.h.len, .slice xa x.rs.length xc]] wr fun e w' => ∃ u, e = .returned (x.h.sv u) ∧ Buf wr w' u x.rs := cstate_any x.h (.slice xa x.rs.length xc) x.rs wr (by rw [← ex]; exact ox.arg) (HR.out x (List.mem_of_getElem? hx))
      clear hcell hx ox ex
      unfold HV.sv at HM
      go_wp2_with fail
      refine Calls.mono HM ?_
      rintro e w2 ⟨u2, rfl, b2⟩
      obtain ⟨ua, uc, rfl⟩ := b2.form
      have O2 : Hid (w2.ownsRow w.heap.size 52 9 (.slice sa j sc) j (statesC l)) := own_touch OW.out b2.t (fun _ _ f => f)
      have OWL : Hid (∀ k, (Value.slice sa j sc).ownBlock = some k → k < wr.heap.size) := fun k hk => (OW.out.lt k hk).2
      have OB2 : Hid (∀ x ∈ l, w2.ownsRow w.heap.size 5 1 x.v x.rs.length (bytesOf x.rs)) := fun x hx => own_touch (OB.out x hx) b2.t (fun _ _ f => f)
      have U2 : Hid (w2.ownsRow wr.heap.size 5 1 (.slice ua x.rs.length uc) x.rs.length (bytesOf x.rs)) := b2.own
      have T2 : Hid (Touch (fun _ => False) w w2) := TW.out.trans b2.t
      have ZZ : Hid (w.heap.size ≤ wr.heap.size ∧ wr.heap.size ≤ w2.heap.size) := ⟨TW.out.size, b2.t.size⟩
      clear HM e0 e1 e2 e3 e4 e5 e6 e7 e8 b2 OW OB TW
      go_wp2_with (at_builtin; refine gapp_own2 rfl (.tmp 11) (.tmp 17) 22 rfl 52 9 48 (.agg #[.int .u16 0, .int .u8 0, .int .u8 0, .int .u32 0, .int .u32 0, .int .i32 0, .int .u16 0, .int .u16 0, .slice none 0 0]) Tryz.underlying22 infoS9g rfl (by decide) (by decide) w.heap.size (.slice sa j sc) j _ rfl (O2.out.alloc _) (by have := ZZ.out; simp; omega) ⟨w2.heap.size, 0, none⟩ 1 1 [.int .u16 x.h.age, .int .u8 x.h.opts, .int .u8 x.h.typ, .int .u32 x.h.id, .int .u32 x.h.adv, .int .i32 x.h.seq, .int .u16 x.h.sum, .int .u16 x.h.len, .slice ua x.rs.length uc] rfl rfl ?c1 ?c2 ?c3 ?_)
      case c1 =>
        intro i u hi
        rw [add_plain]
        match i, hi with
        | 0, hi => cases hi; simp [go_sem]
        | 1, hi => cases hi; simp [go_sem]
        | 2, hi => cases hi; simp [go_sem]
        | 3, hi => cases hi; simp [go_sem]
        | 4, hi => cases hi; simp [go_sem]
        | 5, hi => cases hi; simp [go_sem]
        | 6, hi => cases hi; simp [go_sem]
        | 7, hi => cases hi; simp [go_sem]
        | 8, hi => cases hi; simp [go_sem]
        | i + 9, hi => simp at hi
      case c2 => intro u hu; simp at hu; rcases hu with rfl | rfl | rfl | rfl | rfl | rfl | rfl | rfl | rfl <;> rfl
      case c3 => omega
      intro v4 w4 o4 t4
      obtain ⟨sa4, sc4, ev⟩ := own_form o4
      subst ev
      have ta : Touch (fun _ => False) w2 (w2.alloc (.cells #[.int .u16 x.h.age, .int .u8 x.h.opts, .int .u8 x.h.typ, .int .u32 x.h.id, .int .u32 x.h.adv, .int .i32 x.h.seq, .int .u16 x.h.sum, .int .u16 x.h.len, .slice ua x.rs.length uc] 52)) := (Touch.refl _ _).alloc _
      have REL : Hid (GCsR ks w (ks.length - (j + 1)) (.slice sa4 (j + 1) sc4) (.int .i64 ((j + 1 : Nat) : Int)) w4) := by
        have O4 : w4.ownsRow w.heap.size 52 9 (.slice sa4 (j + 1) sc4) (j + 1) (statesC (l ++ [⟨x.h, .slice ua x.rs.length uc, x.rs⟩])) := by
          have e : statesC (l ++ [⟨x.h, .slice ua x.rs.length uc, x.rs⟩]) = statesC l ++ [.int .u16 x.h.age, .int .u8 x.h.opts, .int .u8 x.h.typ, .int .u32 x.h.id, .int .u32 x.h.adv, .int .i32 x.h.seq, .int .u16 x.h.sum, .int .u16 x.h.len, .slice ua x.rs.length uc] := by simp [statesC, SE.cells]
          rw [e]
          exact o4
        refine ⟨j + 1, l ++ [⟨x.h, .slice ua x.rs.length uc, x.rs⟩], sa4, sc4, by omega, rfl, rfl, rfl, ?_, by rw [List.length_append, HLM.out.2]; rfl, O4, ?_, (T2.out.trans ta).trans' t4 (fun i hi e => by have := (O2.out.lt i e).1; omega)⟩
        · rw [HX.out, List.map_append, HLM.out.1]; rfl
        · intro y hy
          rcases List.mem_append.1 hy with hy | hy
          · exact own_touch (own_touch (OB2.out y hy) ta (fun _ _ f => f)) t4 (fun k hk e => own_unlike O2.out (OB2.out y hy) (by decide) e hk)
          · obtain rfl := List.mem_singleton.1 hy
            exact own_lower (own_touch (own_touch U2.out ta (fun _ _ f => f)) t4 (fun k hk e => by have h1 := (U2.out.lt k hk).1; have h2 := OWL.out k e; omega)) ZZ.out.1
      clear o4 t4 O2 OB2 U2 T2 ta
      go_wp2_with fail
      go_roundg (ks.length - (j + 1))
      case measure => omega
      case rel => exact REL.out
    · obtain rfl : j = ks.length := by omega
      have FIN : Hid (∃ u, (Ending.returned (.slice sa ks.length sc)) = .returned u ∧ Touch (fun _ => False) w wr ∧ ∃ l : List SE, l.map SE.pr = ks.map SE.pr ∧ wr.ownsRow w.heap.size 52 9 u l.length (statesC l) ∧ ∀ x ∈ l, wr.ownsRow w.heap.size 5 1 x.v x.rs.length (bytesOf x.rs)) := ⟨_, rfl, TW.out, l, by rw [HLM.out.1, List.take_length], by rw [HLM.out.2]; exact OW.out, OB.out⟩
      have hlt' : ¬ (ks.length : Int) < (ks.length : Int) := by omega
      go_wp2_with fail
      go_ret
      exact FIN.out
structure GSzR (l : List SE) (gg : Nat) (s3 s4 : Value) (w wr : World) : Prop where
  out : ∃ k N : Nat, k ≤ l.length ∧ gg = l.length - k ∧ s3 = .int .i64 (N : Int) ∧ s4 = .int .i64 (k : Int) ∧ N ≤ 3000000000000000 ∧ 20 * l.length ≤ N ∧ (∀ i x, i < k → l[i]? = some x → x.rs.length ≤ N) ∧ wr = w
set_option maxHeartbeats 2000000 in
theorem gsstates (v : Value) (l : List SE) (w : World) (hv : StatesAt w v l) (hs : l.length ≤ 140737488355328) (hb : ∀ x ∈ l, x.rs.length ≤ 140737488355328) :
    Calls Tryz.prog 21 #[v] w fun e w' => ∃ N : Nat, e = .returned (.int .i64 (N : Int)) ∧ N ≤ 3000000000000000 ∧ (N ≤ 262144 → 20 * l.length ≤ N ∧ ∀ x ∈ l, x.rs.length ≤ N) ∧ w' = w := by
  obtain ⟨va, vc, rfl, -⟩ := ValsAt.form hv.vals
  have HV : Hid (StatesAt w (.slice va l.length vc) l) := hv
  have HB : Hid (∀ x ∈ l, x.rs.length ≤ 140737488355328) := hb
  have h20 : wrap64 (20 * (l.length : Int)) = ((20 * l.length : Nat) : Int) := by unfold wrap64; omega
  have REL : Hid (GSzR l l.length (.int .i64 ((20 * l.length : Nat) : Int)) (.int .i64 0) w w) := ⟨0, 20 * l.length, by omega, by omega, rfl, rfl, by omega, by omega, by omega, rfl⟩
  clear hv hb
  go_enter Tryz.func21, Tryz.ntmps21
  go_wp2_with fail
  go_loopg [3, 4] l.length (fun gg s3 s4 wr => GSzR l gg s3 s4 w wr)
  case atStart => exact REL.out
  case round =>
    obtain ⟨k, N, hk, hgg, rfl, rfl, hN, hlo, hall, rfl⟩ := hrel.out
    have HA : Hid (∀ i x, i < k → l[i]? = some x → x.rs.length ≤ N) := hall
    have HL : Hid (20 * l.length ≤ N) := hlo
    clear REL hrel h20 hall hlo
    by_cases hlt : k < l.length
    · have hlt' : (k : Int) < (l.length : Int) := by omega
      by_cases hn : N ≤ 2147483647
      · have hn' : (N : Int) ≤ 2147483647 := by omega
        have hk00 : (0 : Int) ≤ (k : Int) := by omega
        obtain ⟨x, hx⟩ : ∃ x, l[k]? = some x := ⟨l[k], List.getElem?_eq_getElem _⟩
        obtain ⟨ox, g, o, c, eg, hc⟩ := StatesAt.one HV.out hx
        obtain ⟨xa, xc, ex, -⟩ := ox.arg.form
        simp only [Value.slice.injEq] at eg
        obtain ⟨rfl, -, rfl⟩ := eg
        have xl := HB.out x (List.mem_of_getElem? hx)
        have x8 : wr.cell? ⟨g, o + k * 9 + 8, none⟩ = some (.slice xa x.rs.length xc) := by rw [← ex]; rw [Nat.add_assoc]; exact hc 8 _ rfl
        have HN : Hid (GSzR l (l.length - (k + 1)) (.int .i64 ((N + x.rs.length : Nat) : Int)) (.int .i64 ((k + 1 : Nat) : Int)) wr wr) := by
          refine ⟨k + 1, N + x.rs.length, by omega, rfl, rfl, rfl, by omega, by have := HL.out; omega, fun i y hi hy => ?_, rfl⟩
          rcases Nat.lt_or_ge i k with h | h
          · have := HA.out i y h hy; omega
          · obtain rfl : i = k := by omega
            rw [hx] at hy
            obtain rfl := Option.some.inj hy
            omega
        have hkw : wrap64 ((k : Int) + 1) = ((k + 1 : Nat) : Int) := by unfold wrap64; omega
        clear ox hc ex hx HV HB HA HL
        generalize x.rs.length = L at *
        have hnw : wrap64 ((N : Int) + (L : Int)) = ((N + L : Nat) : Int) := by unfold wrap64; omega
        go_wp2_with fail
        go_roundg (l.length - (k + 1))
        case measure => omega
        case rel => exact HN.out
      · have hn' : ¬ (N : Int) ≤ 2147483647 := by omega
        go_wp2_with fail
        go_ret
        exact ⟨N, rfl, hN, fun h => by omega, rfl⟩
    · obtain rfl : k = l.length := by omega
      have hlt' : ¬ (l.length : Int) < (l.length : Int) := by omega
      go_wp2_with fail
      go_ret
      exact ⟨N, rfl, hN, fun h => ⟨HL.out, fun x hx => by obtain ⟨i, hi, e⟩ := List.mem_iff_getElem.mp hx; exact HA.out i x hi (by rw [← e]; exact List.getElem?_eq_getElem hi)⟩, rfl⟩
/-- What was copied lies as a row of states. -/
theorem copied_at {w w' : World} {u : Value} {ks l : List SE} (hk : ∀ x ∈ ks, x.Ok w) (hp : l.map SE.pr = ks.map SE.pr) (ho : w'.ownsRow w.heap.size 52 9 u l.length (statesC l)) (hb : ∀ x ∈ l, w'.ownsRow w.heap.size 5 1 x.v x.rs.length (bytesOf x.rs)) : StatesAt w' u l := by
  refine ⟨own_vals ho, fun x hx => ?_⟩
  have : x.pr ∈ ks.map SE.pr := by rw [← hp]; exact List.mem_map.2 ⟨x, hx, rfl⟩
  obtain ⟨y, hy, e⟩ := List.mem_map.1 this
  have e1 : y.h = x.h := congrArg Prod.fst e
  have e2 : y.rs = x.rs := congrArg Prod.snd e
  refine ⟨by rw [← e1]; exact (hk y hy).all, ?_, by rw [← e2]; exact (hk y hy).byte⟩
  exact (own_rowAt (hb x hx)).arg
set_option maxHeartbeats 1000000 in
/-- Which rows are too heavy. -/
theorem heavy16 (v : Value) (l : List SE) (w : World) (hv : StatesAt w v l) (hmx : l.length ≤ 140737488355328) (hbx : ∀ x ∈ l, x.rs.length ≤ 140737488355328) : Calls Tryz.prog 7 #[v] w fun e w' => ∃ b : Bool, e = .returned (.bool b) ∧ (b = false → l.length ≤ 60 ∧ ∀ x ∈ l, x.rs.length ≤ 16384) ∧ w = w' := by
  have HB : Hid (∀ x ∈ l, x.rs.length ≤ 140737488355328) := hbx
  clear hbx
  by_cases hl : l.length ≤ 60
  · have HS := gsstates v l w hv (by omega) HB.out
    obtain ⟨va, vc, rfl, -⟩ := ValsAt.form hv.vals
    have hl' : ¬ (60 : Int) < (l.length : Int) := by omega
    have HL : Hid (l.length ≤ 60) := hl
    clear hv
    generalize hn : l.length = n at *
    clear hn
    go_enter Tryz.func7, Tryz.ntmps7
    go_wp2_with fail
    refine HS.mono ?_
    rintro e w1 ⟨N, rfl, h1, h2, rfl⟩
    have H2 : Hid _ := h2
    clear h2 HS
    go_wp2_with fail
    go_ret
    refine ⟨_, rfl, fun hb => ?_, rfl⟩
    have hb' : ¬ (16384 : Int) < (N : Int) := by simpa using hb
    exact ⟨HL.out, fun x hx => Nat.le_trans ((H2.out (by omega)).2 x hx) (by omega)⟩
  · obtain ⟨va, vc, rfl, -⟩ := ValsAt.form hv.vals
    have hl' : (60 : Int) < (l.length : Int) := by omega
    clear hv HB
    generalize l.length = n at *
    go_enter Tryz.func7, Tryz.ntmps7
    go_wp2_with fail
    go_ret
    exact ⟨_, rfl, fun hb => by simp at hb, rfl⟩
end Go.Proofs.YtjffcflhbnmjmaaGreat
