
/- A graph is made of what came in. -/
import Derived.Test.YtdfacfpjhnohcaaTrAr
namespace Go.Proofs.Ytdfacfpjhnohcaa
open Go.RowKit
set_option linter.unusedVariables false
set_option maxRecDepth 100000

theorem infoGE : (Try.prog.info? 52).map (fun i => (i.zero, i.size, i.bytes)) = some (some (.agg #[.int .i64 0, .int .u32 0, .int .u32 0, .bool false]), 4, 24) := by kernel_rfl
theorem infoGN : (Try.prog.info? 56).map (fun i => (i.zero, i.size, i.bytes)) = some (some (.agg #[.bool false, .int .u32 0, .int .u32 0, .int .u8 0, .int .u8 0, .slice none 0 0, .slice none 0 0]), 7, 72) := by kernel_rfl
theorem TE.len (e : TE) : e.cs.length = 4 := rfl
theorem NM.len (e : NM) : e.cs.length = 7 := rfl
/-- Its edges lie in a row of the call's own. -/
def EdO (B : Nat) (w : World) (m : NM) : Prop := RG TE.cs 4 52 B w (.slice m.ea m.t.edges.length m.ec) m.t.edges
/-- While nodes are made. -/
structure GvR (w0 : World) (ns : List NM) (j : Nat) (gv : Value) (w : World) : Prop where
  out : ∃ ms, RG NM.cs 7 56 w0.heap.size w gv ms ∧ ms.map (·.t) = (ns.take j).map (·.t) ∧ ∀ m ∈ ms, EdO w0.heap.size w m
  t : Touch (fun _ => False) w0 w
/-- While a node's edges are made: it lies in block nb. -/
structure InR (ws : World) (nb : Nat) (x : NM) (k : Nat) (w : World) : Prop where
  out : ∃ ea ec, RG TE.cs 4 52 ws.heap.size w (.slice ea k ec) (x.t.edges.take k) ∧ Row w nb 56 [.bool x.t.net, .int .u32 x.t.id, .int .u32 x.addr, .int .u8 x.bits, .int .u8 x.flags, .slice ea k ec, .slice none 0 0]
  t : Touch (fun i => i = nb) ws w
  lt : nb < ws.heap.size

theorem InR.mid {ws : World} {nb : Nat} {x : NM} {k : Nat} {w w2 w3 : World} {ea : Option Addr} {ec : Nat} (lt : nb < ws.heap.size) (re : RG TE.cs 4 52 ws.heap.size w (.slice ea k ec) (x.t.edges.take k)) {xs : List Value} (row : Row w nb 56 xs) (t : Touch (fun _ => False) w w2) (gr : w2.grownBy w3 (Value.ownBlock (.slice ea k ec))) : Row w3 nb 56 xs := by
  have t3 : Touch (fun i => Value.ownBlock (.slice ea k ec) = some i) w2 w3 := Touch.grown (Touch.refl _ _) gr (fun i hi => Or.inl hi)
  have r2 := row.keep t
  refine (t3.block nb (Row.lt r2) (fun e => ?_)).trans r2
  have := RG.ge re e
  omega
theorem InR.step {ws : World} {nb : Nat} {x : NM} {k : Nat} {w w2 w3 : World} {ea ua : Option Addr} {ec uc : Nat} {e : TE} (T : Touch (fun i => i = nb) ws w) (lt : nb < ws.heap.size) (re : RG TE.cs 4 52 ws.heap.size w (.slice ea k ec) (x.t.edges.take k))
    (row : Row w nb 56 [.bool x.t.net, .int .u32 x.t.id, .int .u32 x.addr, .int .u8 x.bits, .int .u8 x.flags, .slice ea k ec, .slice none 0 0]) (t : Touch (fun _ => False) w w2) (he : x.t.edges[k]? = some e)
    (own : w3.ownsRow ws.heap.size 52 4 (.slice ua (k + 1) uc) (k + 1) (cellsG TE.cs (x.t.edges.take k) ++ e.cs)) (gr : w2.grownBy w3 (Value.ownBlock (.slice ea k ec))) (hat : Value.ownBlock (.slice ua (k + 1) uc) = Value.ownBlock (.slice ea k ec) ∨ Value.ownBlock (.slice ua (k + 1) uc) = some w2.heap.size) :
    InR ws nb x (k + 1) (w3.setCell ⟨nb, 5, none⟩ (.slice ua (k + 1) uc)) := by
  have r3 := InR.mid lt re row t gr
  have ts : Touch (fun i => i = nb) w3 (w3.setCell ⟨nb, 5, none⟩ (.slice ua (k + 1) uc)) := (Touch.refl (fun i => i = nb) w3).setCell (p := ⟨nb, 5, none⟩) (Or.inl rfl) _
  have hlen : (x.t.edges.take (k + 1)).length = k + 1 := by
    have := (List.getElem?_eq_some_iff.1 he).1
    simp; omega
  have e1 : x.t.edges.take (k + 1) = x.t.edges.take k ++ [e] := by rw [List.take_add_one, he]; rfl
  refine ⟨⟨ua, uc, ?_, ?_⟩, ?_, lt⟩
  · unfold RG
    rw [hlen, e1, cellsG_append]
    have own' : w3.ownsRow ws.heap.size 52 4 (.slice ua (k + 1) uc) (k + 1) (cellsG TE.cs (x.t.edges.take k) ++ cellsG TE.cs [e]) := by simpa [cellsG] using own
    refine own_touch own' ts (fun i hi h => ?_)
    have := (own.lt i hi).1
    omega
  · have := r3.set 5 (.slice ua (k + 1) uc)
    exact this
  · refine Touch.trans (b := w3) ?_ ts
    refine Touch.grown (T.trans (t.mono (fun _ _ h => h.elim))) gr (fun i hi => Or.inr (RG.ge re hi))
theorem EdO.keep {F : Nat → Prop} {B : Nat} {w w' : World} {m : NM} (h : EdO B w m) (t : Touch F w w') (hn : ∀ g, B ≤ g → g < w.heap.size → F g → ∃ cur T, w.heap[g]? = some (.cells cur T) ∧ T ≠ 52) : EdO B w' m := by
  refine RG.keep h t (fun g hg hF => ?_)
  obtain ⟨cur, T, h1, h2⟩ := hn g (RG.ge h hg) (RG.lt h hg) hF
  obtain ⟨cur', h3⟩ := RG.blk h hg
  rw [h1] at h3
  injection h3 with h3
  injection h3 with _ h3
  exact h2 h3

theorem RG.low {α : Type} {cs : α → List Value} {k T B B' : Nat} {w : World} {v : Value} {l : List α} (h : RG cs k T B w v l) (hB : B' ≤ B) : RG cs k T B' w v l := ⟨h.1, h.2.imp id (fun ⟨g, cap, cur, hv, hg, r⟩ => ⟨g, cap, cur, hv, Nat.le_trans hB hg, r⟩)⟩
theorem RG.len_eq {α : Type} {cs : α → List Value} {k T B : Nat} {w : World} {a : Option Addr} {n c : Nat} {l : List α} (h : RG cs k T B w (.slice a n c) l) : l.length = n := by
  obtain ⟨a', c', e⟩ := RG.shape h
  injection e with _ e _
  exact e.symm
/-- One node more. -/
theorem GvR.step {w0 wo ws w w2 w3 : World} {ns : List NM} {j nb : Nat} {ua ua3 ea : Option Addr} {un uc uc3 ec : Nat} {x : NM} (X : GvR w0 ns j (.slice ua un uc) wo) (hnb : wo.heap.size = nb) (T0 : Touch (fun _ => False) wo ws) (T : Touch (fun i => i = nb) ws w) (hx : ns[j]? = some x)
    (re : RG TE.cs 4 52 ws.heap.size w (.slice ea x.t.edges.length ec) x.t.edges) (t : Touch (fun _ => False) w w2) {ms : List NM} (hms : RG NM.cs 7 56 w0.heap.size wo (.slice ua un uc) ms) (hmt : ms.map (·.t) = (ns.take j).map (·.t)) (hed : ∀ m ∈ ms, EdO w0.heap.size wo m)
    (own : w3.ownsRow w0.heap.size 56 7 (.slice ua3 (un + 1) uc3) (un + 1) (cellsG NM.cs ms ++ NM.cs { x with ea := ea, ec := ec, sa := none, sn := 0, sc := 0 })) (gr : w2.grownBy w3 (Value.ownBlock (.slice ua un uc))) :
    GvR w0 ns (j + 1) (.slice ua3 (un + 1) uc3) w3 := by
  have hmsl := RG.len_eq hms
  have TS : Touch (fun i => i = nb) wo w := (T0.mono (fun _ _ h => h.elim)).trans T
  have h2 : RG NM.cs 7 56 w0.heap.size w2 (.slice ua un uc) ms := by
    refine RG.keepN (RG.keep hms TS (fun g hg e => ?_)) t
    have := RG.lt hms hg
    omega
  have t3 : Touch (fun i => Value.ownBlock (.slice ua un uc) = some i) w2 w3 := Touch.grown (Touch.refl _ _) gr (fun i hi => Or.inl hi)
  have ek : ∀ m, EdO w0.heap.size w2 m → EdO w0.heap.size w3 m := fun m hm => hm.keep t3 (fun g hB hlt hF => by
    obtain ⟨cur, hc⟩ := RG.blk h2 hF
    exact ⟨cur, _, hc, by decide⟩)
  refine ⟨⟨ms ++ [{ x with ea := ea, ec := ec, sa := none, sn := 0, sc := 0 }], ?_, ?_, ?_⟩, ?_⟩
  · unfold RG
    rw [List.length_append, hmsl, cellsG_append]
    simpa [cellsG] using own
  · rw [List.map_append, hmt, List.take_add_one, hx]
    simp
  · intro m hm
    rcases List.mem_append.1 hm with hm | hm
    · refine ek m ?_
      unfold EdO
      refine RG.keepN (RG.keep (hed m hm) TS (fun g hg e => ?_)) t
      have := RG.lt (hed m hm) hg
      omega
    · simp at hm
      subst hm
      exact ek _ ((RG.keepN re t).low (Nat.le_trans X.t.size T0.size))
  · have h4 : Touch (fun _ => False) w0 w2 := (X.t.trans' TS (fun i hi e => by have := X.t.size; omega)).trans t
    exact h4.trans' t3 (fun i hi e => by have := RG.ge hms e; omega)
set_option maxHeartbeats 4000000 in
theorem given17 (w : World) (v : Value) (ns : List NM) (A : ArAt w v ns) (hn : ns.length ≤ 40) (hs : esum ns ≤ 200) :
    Calls Try.prog 9 #[v] w fun e w' => ∃ gv, e = .returned gv ∧ GvR w ns ns.length gv w' := by
  obtain ⟨⟨a, c, rfl, hl, hsh⟩, hed⟩ := A
  have HSH : Hid _ := hsh
  have HED : Hid _ := hed
  have HES : Hid (esum ns ≤ 200) := hs
  have R0 : GvR w ns 0 (.slice none 0 0) w := ⟨⟨[], World.ownsRow_nil _ _ _ _, rfl, by simp⟩, Touch.refl _ _⟩
  have HR0 : Hid _ := R0
  have hn1 : (ns.length : Int) ≤ 40 := by omega
  obtain ⟨i1, hi1, hz1, hs1, hb1⟩ := infoParts infoGE
  obtain ⟨i2, hi2, hz2, hs2, hb2⟩ := infoParts infoGN
  have HI1 : Hid (Try.prog.info? 52 = some i1 ∧ i1.zero = some (.agg #[.int .i64 0, .int .u32 0, .int .u32 0, .bool false]) ∧ i1.size = 4 ∧ i1.bytes = 24) := ⟨hi1, hz1, hs1, hb1⟩
  have HI2 : Hid (Try.prog.info? 56 = some i2 ∧ i2.zero = some (.agg #[.bool false, .int .u32 0, .int .u32 0, .int .u8 0, .int .u8 0, .slice none 0 0, .slice none 0 0]) ∧ i2.size = 7 ∧ i2.bytes = 72) := ⟨hi2, hz2, hs2, hb2⟩
  generalize hN : ns.length = N at *
  have HN : Hid _ := hN
  clear hsh hed R0 hl hs hN hi1 hz1 hs1 hb1 hi2 hz2 hs2 hb2
  go_enter Try.func9, Try.ntmps9
  go_wp2_with fail
  go_loopg [3, 4] N (fun gg s3 s4 wx => ∃ j : Nat, s4 = .int .i64 j ∧ j ≤ N ∧ gg = N - j ∧ GvR w ns j s3 wx)
  case atStart => exact ⟨0, rfl, Nat.zero_le _, rfl, HR0.out⟩
  case round =>
    clear HR0
    obtain ⟨j, rfl, hj, hg, X⟩ := hrel
    have HX : Hid _ := X
    have HG : Hid _ := hg
    obtain ⟨ms0, re0, -, -⟩ := X.out
    obtain ⟨ua, uc, rfl⟩ := RG.shape re0
    clear hg
    generalize ms0.length = un at *
    by_cases hjN : j < N
    · obtain ⟨x, hx⟩ : ∃ x, ns[j]? = some x := ⟨_, List.getElem?_eq_getElem (by have := HN.out; omega)⟩
      rcases HSH.out with e | ⟨g, o, rfl, hc⟩
      · rw [e] at hx; cases hx
      have hq := fun d u hd => X.t.cellN (hc j x hx d u hd)
      have q0 : wr.cell? ⟨g, o + j * 7, none⟩ = some (.bool x.t.net) := hq 0 _ rfl
      have q1 : wr.cell? ⟨g, o + j * 7 + 1, none⟩ = some (.int .u32 x.t.id) := hq 1 _ rfl
      have q2 : wr.cell? ⟨g, o + j * 7 + 2, none⟩ = some (.int .u32 x.addr) := hq 2 _ rfl
      have q3 : wr.cell? ⟨g, o + j * 7 + 3, none⟩ = some (.int .u8 x.bits) := hq 3 _ rfl
      have q4 : wr.cell? ⟨g, o + j * 7 + 4, none⟩ = some (.int .u8 x.flags) := hq 4 _ rfl
      have q5 : wr.cell? ⟨g, o + j * 7 + 5, none⟩ = some (.slice x.ea x.t.edges.length x.ec) := hq 5 _ rfl
      have hj0 : (0 : Int) ≤ (j : Int) := by omega
      have hj1 : (j : Int) < (N : Int) := by omega
      have hgl := lt_of_cell q0
      have hbld : ∀ w, (Instr.build 56 #[(0, .bool x.t.net), (1, .int .u32 x.t.id), (2, .agg #[.int .u32 x.addr, .int .u8 x.bits]), (3, .int .u8 x.flags)]).run Try.prog w = .ok (.agg #[.bool x.t.net, .int .u32 x.t.id, .int .u32 x.addr, .int .u8 x.bits, .int .u8 x.flags, .slice none 0 0, .slice none 0 0]) w := fun w => run_build w 56 _ _ (by kernel_rfl)
      have HXX : Hid (ns[j]? = some x) := hx
      have HC : Hid _ := hc
      clear hq hx hc re0 X
      go_upto_region 5 with fail
      go_cut [5] (fun s5 wx => s5 = .pointer (some ⟨wr.heap.size, 0, none⟩) ∧ wx = (wr.alloc (.cells #[.bool x.t.net, .int .u32 x.t.id, .int .u32 x.addr, .int .u8 x.bits, .int .u8 x.flags, .slice none 0 0, .slice none 0 0] 56)).drew)
      case first =>
        go_region
        all_goals go_wp2_with fail
        all_goals go_meet
        all_goals exact ⟨rfl, rfl⟩
      case rest =>
        obtain ⟨rfl, hwc⟩ := hcut
        generalize wc = ws at *
        have RB0 : Row ws wr.heap.size 56 [.bool x.t.net, .int .u32 x.t.id, .int .u32 x.addr, .int .u8 x.bits, .int .u8 x.flags, .slice none 0 0, .slice none 0 0] := by rw [hwc]; exact Row.keep (row_new wr _ _) ((Touch.refl _ _).drew)
        have T0 : Touch (fun _ => False) wr ws := by rw [hwc]; exact ((Touch.refl _ _).alloc _).drew
        have ST : Hid (InR ws wr.heap.size x 0 ws) := ⟨⟨none, 0, World.ownsRow_nil _ _ _ _, RB0⟩, Touch.refl _ _, Row.lt RB0⟩
        have HT0 : Hid _ := T0
        have HTW : Hid (Touch (fun _ => False) w ws) := HX.out.t.trans T0
        have HWN : Hid (w.heap.size ≤ wr.heap.size) := HX.out.t.size
        have HDE : Hid _ := HED.out x (List.mem_of_getElem? HXX.out)
        have HDG : Hid (x.t.edges.length ≤ 200) := Nat.le_trans (esum_mem (List.mem_of_getElem? HXX.out)) HES.out
        have hdg : (x.t.edges.length : Int) ≤ 200 := by have := HDG.out; omega
        have q5' := HT0.out.cellN q5
        generalize hnb : wr.heap.size = nb at *
        have HNB : Hid _ := hnb
        clear hnb
        generalize hea0 : x.ea = ea0 at *
        have HEA : Hid _ := hea0
        generalize hdd : x.t.edges.length = dg at *
        have HDD : Hid _ := hdd
        have H5 : Hid (w.cell? ⟨g, o + j * 7 + 5, none⟩ = some (.slice ea0 dg x.ec)) := by have := HC.out j x HXX.out 5 _ rfl; rw [hea0, hdd] at this; exact this
        clear hwc RB0 T0 q0 q1 q2 q3 q4 q5 hbld hgl hea0 hdd
        go_wp2_with fail
        go_loopw [6] (fun s6 wx => ∃ k : Nat, s6 = .int .i64 k ∧ k ≤ dg ∧ InR ws nb x k wx) (fun s6 _ => dg - (intOf s6).toNat)
        case atStart => exact ⟨0, rfl, Nat.zero_le _, ST.out⟩
        case round =>
          clear ST
          obtain ⟨k, rfl, hk, Y⟩ := hrel
          obtain ⟨⟨ea, ec, re, row⟩, T, lt⟩ := Y
          have TT : Touch (fun _ => False) w wr := HTW.out.trans' T (fun i hi e => by have := HWN.out; omega)
          have q5 : wr.cell? ⟨g, o + j * 7 + 5, none⟩ = some (.slice ea0 dg x.ec) := TT.cellN H5.out
          have HT : Hid (Touch (fun i => i = nb) ws wr) := T
          have HRE : Hid (RG TE.cs 4 52 ws.heap.size wr (.slice ea k ec) (x.t.edges.take k)) := re
          have HRW : Hid (Row wr nb 56 [.bool x.t.net, .int .u32 x.t.id, .int .u32 x.addr, .int .u8 x.bits, .int .u8 x.flags, .slice ea k ec, .slice none 0 0]) := row
          have HTT : Hid (Touch (fun _ => False) w wr) := TT
          by_cases hkd : k < dg
          · obtain ⟨e, he⟩ : ∃ e, x.t.edges[k]? = some e := ⟨_, List.getElem?_eq_getElem (by have := HDD.out; omega)⟩
            rcases HDE.out with e1 | ⟨eg, eo, rfl, hce⟩
            · rw [e1] at he; cases he
            have p0 : wr.cell? ⟨eg, eo + k * 4, none⟩ = some (.int .i64 e.dst) := TT.cellN (hce k e he 0 _ rfl)
            have p1 : wr.cell? ⟨eg, eo + k * 4 + 1, none⟩ = some (.int .u32 e.cost) := TT.cellN (hce k e he 1 _ rfl)
            have p2 : wr.cell? ⟨eg, eo + k * 4 + 2, none⟩ = some (.int .u32 e.data) := TT.cellN (hce k e he 2 _ rfl)
            have p3 : wr.cell? ⟨eg, eo + k * 4 + 3, none⟩ = some (.bool e.vr) := TT.cellN (hce k e he 3 _ rfl)
            have n5 : wr.cell? ⟨nb, 5, none⟩ = some (.slice ea k ec) := row.cell 5
            have hnl : nb < wr.heap.size := Row.lt row
            have HE : Hid _ := he
            have hk0 : (0 : Int) ≤ (k : Int) := by omega
            have hk1 : (k : Int) < (dg : Int) := by omega
            have hbld2 : ∀ w, (Instr.build 52 #[(0, .int .i64 e.dst), (1, .int .u32 e.cost), (2, .int .u32 e.data), (3, .bool e.vr)]).run Try.prog w = .ok (.agg #[.int .i64 e.dst, .int .u32 e.cost, .int .u32 e.data, .bool e.vr]) w := fun w => run_build w 52 _ _ (by kernel_rfl)
            have TA : Touch (fun _ => False) wr ((wr.alloc (.cells #[.int .i64 e.dst, .int .u32 e.cost, .int .u32 e.data, .bool e.vr] 33)).alloc (.cells #[.int .i64 e.dst, .int .u32 e.cost, .int .u32 e.data, .bool e.vr] 52)) := ((Touch.refl _ _).alloc _).alloc _
            have HTA : Hid _ := TA
            have HWS : Hid (ws.heap.size ≤ wr.heap.size) := T.size
            clear TT T re row he hce TA
            go_wp2_with (at_builtin; refine wpList_append_own_at _ rfl (.tmp 54) (.tmp 64) 53 rfl ws.heap.size 52 i1 _ 4 24 Try.underlying53 HI1.out.1 HI1.out.2.1 HI1.out.2.2.1 HI1.out.2.2.2 rfl (by omega) (.slice ea k ec) k (cellsG TE.cs (x.t.edges.take k)) rfl ?c1 ⟨wr.heap.size + 1, 0, none⟩ 1 1 e.cs rfl rfl ?c2 ?c3 (by have := HDG.out; unfold maxLen; omega) (by have := HDG.out; omega) ?c4 ?_)
            case c1 =>
              have h := HRE.out
              unfold RG at h
              rw [show (x.t.edges.take k).length = k from by simp; have := HDD.out; omega] at h
              exact own_touch h HTA.out (fun _ _ h => h)
            case c2 => exact (fun jj u hj => by
              rcases (by have := (List.getElem?_eq_some_iff.1 hj).1; simp [TE.cs] at this; omega : jj = 0 ∨ jj = 1 ∨ jj = 2 ∨ jj = 3) with rfl | rfl | rfl | rfl <;> (simp [TE.cs] at hj; subst hj; simp [Addr.add, go_sem]))
            case c3 => exact (fun u hu => by simp [TE.cs] at hu; rcases hu with rfl | rfl | rfl | rfl <;> rfl)
            case c4 => exact Nat.le_trans HWS.out HTA.out.size
            intro v3 w3 own3 gr3 _ hat3
            obtain ⟨ua3, uc3, rfl⟩ := own_shape own3
            have r3 := InR.mid lt HRE.out HRW.out HTA.out gr3
            have m5 : w3.cell? ⟨nb, 5, none⟩ = some (.slice ea k ec) := r3.cell 5
            have mf := r3.frozen 5
            have XN : Hid _ := InR.step HT.out lt HRE.out HRW.out HTA.out HE.out own3 gr3 (by simpa using hat3)
            clear own3 gr3 hat3 r3
            go_wp2_with fail
            go_roundw
            case rel => exact ⟨k + 1, by go_num, by omega, XN.out⟩
            case measure => simp [intOf]; omega
          · have hkk : k = dg := by omega
            subst hkk
            have n0 : wr.cell? ⟨nb, 0, none⟩ = some (.bool x.t.net) := row.cell 0
            have n1 : wr.cell? ⟨nb, 1, none⟩ = some (.int .u32 x.t.id) := row.cell 1
            have n2 : wr.cell? ⟨nb, 2, none⟩ = some (.int .u32 x.addr) := row.cell 2
            have n3 : wr.cell? ⟨nb, 3, none⟩ = some (.int .u8 x.bits) := row.cell 3
            have n4 : wr.cell? ⟨nb, 4, none⟩ = some (.int .u8 x.flags) := row.cell 4
            have n5 : wr.cell? ⟨nb, 5, none⟩ = some (.slice ea k ec) := row.cell 5
            have n6 : wr.cell? ⟨nb, 6, none⟩ = some (.slice none 0 0) := row.cell 6
            obtain ⟨ms, hms, hmt, hed⟩ := HX.out.out
            have HMS : Hid _ := hms
            have HMT : Hid _ := hmt
            have HEM : Hid _ := hed
            have hun : un ≤ 40 := by
              have h1 := RG.len_eq hms
              have h2 := congrArg List.length hmt
              simp at h2
              have := HN.out
              omega
            have HUN : Hid (un ≤ 40) := hun
            have TA : Touch (fun _ => False) wr (wr.alloc (.cells #[.bool x.t.net, .int .u32 x.t.id, .int .u32 x.addr, .int .u8 x.bits, .int .u8 x.flags, .slice ea k ec, .slice none 0 0] 56)) := (Touch.refl _ _).alloc _
            have HTA : Hid _ := TA
            clear TT T re row hms hmt hed hun TA
            go_wp2_with (at_builtin; refine wpList_append_own_at _ rfl (.tmp 67) (.tmp 69) 36 rfl w.heap.size 56 i2 _ 7 72 Try.underlying36 HI2.out.1 HI2.out.2.1 HI2.out.2.2.1 HI2.out.2.2.2 rfl (by omega) (.slice ua un uc) un (cellsG NM.cs ms) rfl ?d1 ⟨wr.heap.size, 0, none⟩ 1 1 [.bool x.t.net, .int .u32 x.t.id, .int .u32 x.addr, .int .u8 x.bits, .int .u8 x.flags, .slice ea k ec, .slice none 0 0] rfl rfl ?d2 ?d3 (by have := HUN.out; unfold maxLen; omega) (by have := HUN.out; omega) ?d4 ?_)
            case d1 =>
              have hl := RG.len_eq HMS.out
              have h : RG NM.cs 7 56 w.heap.size _ (.slice ua un uc) ms := RG.keepN (RG.keep (RG.keepN HMS.out HT0.out) HT.out (fun g hg e => by have := RG.lt HMS.out hg; have := HNB.out; omega)) HTA.out
              unfold RG at h
              rw [hl] at h
              exact h
            case d3 => exact ⟨rfl, rfl, rfl, rfl, rfl, rfl, rfl⟩
            case d4 =>
              have := HTT.out.size
              simp
              omega
            intro v3 w3 own3 gr3 _ _
            obtain ⟨ua3, uc3, rfl⟩ := own_shape own3
            have XN : Hid (GvR w ns (j + 1) (.slice ua3 (un + 1) uc3) w3) := by
              have re2 : RG TE.cs 4 52 ws.heap.size wr (.slice ea x.t.edges.length ec) x.t.edges := by
                have h := HRE.out
                rw [← HDD.out, List.take_length] at h
                exact h
              refine HX.out.step HNB.out HT0.out HT.out HXX.out re2 HTA.out HMS.out HMT.out HEM.out ?_ gr3
              have e1 : NM.cs { x with ea := ea, ec := ec, sa := none, sn := 0, sc := 0 } = [.bool x.t.net, .int .u32 x.t.id, .int .u32 x.addr, .int .u8 x.bits, .int .u8 x.flags, .slice ea k ec, .slice none 0 0] := by simp [NM.cs, HDD.out]
              rw [e1]
              exact own3
            clear own3 gr3
            go_wp2_with fail
            go_roundg (N - (j + 1))
            case measure => have := HG.out; omega
            case rel => exact ⟨j + 1, by go_num, by omega, rfl, XN.out⟩
    · have hjj : j = N := by omega
      subst hjj
      clear re0 X
      go_wp2_with fail
      go_ret
      exact ⟨_, rfl, HX.out⟩
end Go.Proofs.Ytdfacfpjhnohcaa
