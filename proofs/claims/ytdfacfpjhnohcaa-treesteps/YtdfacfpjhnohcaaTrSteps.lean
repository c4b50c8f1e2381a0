
/- The walk of TreeSteps. -/
import Derived.Test.YtdfacfpjhnohcaaTrStP
namespace Go.Proofs.Ytdfacfpjhnohcaa
open Go.RowKit
set_option linter.unusedVariables false
set_option maxRecDepth 100000

set_option maxHeartbeats 8000000 in
theorem steps17 (v : Value) (ns : List NM) (x : Int) (w : World) (A : ArAt w v ns) (ok : ∀ y ∈ ns, NOk y) :
    Calls Try.prog 4 #[v, .int .i64 x] w fun e w' => e = .returned (.bool true) ∧ Touch (fun _ => False) w w' := by
  have HH : Hid _ := fun b hb => heavy17 w v ns A ok b hb
  have HA : Hid (ArAt w v ns) := A
  have HOK : Hid _ := ok
  obtain ⟨⟨a, c, rfl, hl, hsh⟩, hed⟩ := A
  have HSH : Hid _ := hsh
  have HED : Hid _ := hed
  clear hsh hed ok
  by_cases hb : 40 < ns.length ∨ 200 < esum ns
  · have HB : Hid _ := HH.out true (decide_eq_true hb)
    clear hb HH
    go_enter Try.func4, Try.ntmps4
    go_wp2_with (first | (go_at_call 6; refine Calls.mono HB.out ?_; rintro e wx ⟨rfl, rfl⟩) | (go_at_call 7; refine Calls.mono (works17 _) ?_; rintro e wx ⟨rfl, tw⟩))
    go_ret
    exact ⟨rfl, tw⟩
  · have HB : Hid _ := HH.out false (decide_eq_false hb)
    have HLN : Hid (ns.length ≤ 40 ∧ esum ns ≤ 200) := by show _ ∧ _; omega
    have hl40 : (ns.length : Int) ≤ 40 := by omega
    clear hb HH hl
    by_cases hx0 : x < 0
    · have hd : decide (x < 0) = true := decide_eq_true hx0
      go_enter Try.func4, Try.ntmps4
      go_wp2_with (first | (go_at_call 6; refine Calls.mono HB.out ?_; rintro e wx ⟨rfl, rfl⟩) | (go_at_call 7; refine Calls.mono (works17 _) ?_; rintro e wx ⟨rfl, tw⟩))
      go_ret
      exact ⟨rfl, tw⟩
    · have hd : decide (x < 0) = false := decide_eq_false hx0
      by_cases hxn : (ns.length : Int) ≤ x
      · have hd2 : decide ((ns.length : Int) ≤ x) = true := decide_eq_true hxn
        go_enter Try.func4, Try.ntmps4
        go_wp2_with (first | (go_at_call 6; refine Calls.mono HB.out ?_; rintro e wx ⟨rfl, rfl⟩) | (go_at_call 7; refine Calls.mono (works17 _) ?_; rintro e wx ⟨rfl, tw⟩))
        go_ret
        exact ⟨rfl, tw⟩
      · have hd2 : decide ((ns.length : Int) ≤ x) = false := decide_eq_false hxn
        obtain ⟨r, HXR⟩ : ∃ r : Nat, Hid (x = (r : Int)) := ⟨x.toNat, by show _ = _; omega⟩
        have HR : Hid (r < ns.length) := by show _ < _; have := HXR.out; omega
        generalize hN : ns.length = N at *
        have HN : Hid _ := hN
        clear hN
        go_enter Try.func4, Try.ntmps4
        go_wp2_with ((go_at_call 6; refine Calls.mono HB.out ?_; rintro e wx ⟨rfl, rfl⟩))
        go_loopg [5, 6, 7] N (fun gg s5 _ _ wx => ∃ i : Nat, s5 = .int .i64 i ∧ i ≤ N ∧ gg = N - i ∧ Touch (fun _ => False) w wx ∧ Hid (SfF ns i))
        case atStart => exact ⟨0, rfl, Nat.zero_le _, rfl, Touch.refl _ _, fun j y hj => by omega⟩
        case round =>
          obtain ⟨i, rfl, hi, hg, TR, HF⟩ := hrel
          have HTR : Hid _ := TR
          by_cases hiN : i < N
          · obtain ⟨y, hy⟩ : ∃ y, ns[i]? = some y := ⟨_, List.getElem?_eq_getElem (by have := HN.out; omega)⟩
            rcases HSH.out with e | ⟨g, o, rfl, hc⟩
            · rw [e] at hy; cases hy
            have q0 : wr.cell? ⟨g, o + i * 7, none⟩ = some (.bool y.t.net) := TR.cellN (hc i y hy 0 _ rfl)
            have q1 : wr.cell? ⟨g, o + i * 7 + 1, none⟩ = some (.int .u32 y.t.id) := TR.cellN (hc i y hy 1 _ rfl)
            have HQ5 : Hid (w.cell? ⟨g, o + i * 7 + 5, none⟩ = some (.slice y.ea y.t.edges.length y.ec)) := hc i y hy 5 _ rfl
            have hi0 : (0 : Int) ≤ (i : Int) := by omega
            have hi1 : (i : Int) < (N : Int) := by omega
            have HY : Hid _ := hy
            have HDE : Hid _ := HED.out y (List.mem_of_getElem? hy)
            have HDG : Hid (y.t.edges.length ≤ 200) := Nat.le_trans (esum_mem (List.mem_of_getElem? hy)) HLN.out.2
            have hdg : (y.t.edges.length : Int) ≤ 200 := by have := HDG.out; omega
            have HG : Hid _ := hg
            have HFI : Hid _ := fun rr hrr => find17 wr _ ns (HA.out.keep TR) false y.t.id rr hrr
            clear hc hy hg TR
            generalize hea0 : y.ea = ea0 at *
            generalize hdd : y.t.edges.length = dg at *
            have HDD : Hid _ := hdd
            clear hea0 hdd
            cases hnet : y.t.net
            · rw [hnet] at q0
              by_cases hid : y.t.id = 0
              · rw [hid] at q1
                go_wp2_with ((go_at_call 7; refine Calls.mono (works17 _) ?_; rintro e wx ⟨rfl, tw⟩))
                go_ret
                exact ⟨rfl, HTR.out.trans tw⟩
              · have hid2 : (y.t.id == 0) = false := by simpa using hid
                by_cases hfd : fdI ns false y.t.id = (i : Int)
                · have HFD : Hid _ := HFI.out (i : Int) hfd
                  have HFE : Hid _ := hfd
                  have HNT : Hid _ := hnet
                  have HID : Hid _ := hid
                  clear HFI hfd hnet
                  go_wp2_with ((go_at_call 10; refine Calls.mono HFD.out ?_; rintro e wx ⟨rfl, rfl⟩))
                  go_loopw [6, 7] (fun s6 _ wx => ∃ k : Nat, s6 = .int .i64 k ∧ k ≤ dg ∧ Touch (fun _ => False) w wx ∧ Hid (SfK N i y.t.edges k)) (fun s6 _ _ => dg - (intOf s6).toNat)
                  case atStart => exact ⟨0, rfl, Nat.zero_le _, HTR.out, fun j e hj => by omega⟩
                  case round =>
                    clear HTR q0 q1
                    obtain ⟨k, rfl, hk, TK, HE⟩ := hrel
                    have q5 : wr.cell? ⟨g, o + i * 7 + 5, none⟩ = some (.slice ea0 dg y.ec) := TK.cellN HQ5.out
                    have HTK : Hid _ := TK
                    by_cases hkd : k < dg
                    · obtain ⟨e, he⟩ : ∃ e, y.t.edges[k]? = some e := ⟨_, List.getElem?_eq_getElem (by have := HDD.out; omega)⟩
                      rcases HDE.out with e1 | ⟨eg, eo, rfl, hce⟩
                      · rw [e1] at he; cases he
                      have p0 : wr.cell? ⟨eg, eo + k * 4, none⟩ = some (.int .i64 e.dst) := TK.cellN (hce k e he 0 _ rfl)
                      have p1 : wr.cell? ⟨eg, eo + k * 4 + 1, none⟩ = some (.int .u32 e.cost) := TK.cellN (hce k e he 1 _ rfl)
                      have p2 : wr.cell? ⟨eg, eo + k * 4 + 2, none⟩ = some (.int .u32 e.data) := TK.cellN (hce k e he 2 _ rfl)
                      have p3 : wr.cell? ⟨eg, eo + k * 4 + 3, none⟩ = some (.bool e.vr) := TK.cellN (hce k e he 3 _ rfl)
                      have hk0 : (0 : Int) ≤ (k : Int) := by omega
                      have hk1 : (k : Int) < (dg : Int) := by omega
                      have HEK : Hid _ := he
                      clear he hce TK
                      by_cases hf : 0 ≤ e.dst ∧ e.dst < (N : Int) ∧ e.dst ≠ (i : Int) ∧ 1 ≤ e.cost ∧ e.cost ≤ 65536
                      · have HFF : Hid (SfE N i e) := hf
                        have h1 : decide (e.dst < 0) = false := decide_eq_false (by omega)
                        have h2 : decide ((N : Int) ≤ e.dst) = false := decide_eq_false (by omega)
                        have h3 : (e.dst == (i : Int)) = false := by simp; omega
                        have h4 : decide (e.cost < 1) = false := decide_eq_false (by omega)
                        have h5 : decide (65536 < e.cost) = false := decide_eq_false (by omega)
                        clear hf
                        go_wp2_with fail
                        go_roundw
                        case rel => exact ⟨k + 1, by go_num, by omega, HTK.out.trans ((Touch.refl _ _).alloc _), HE.out.step HEK.out HFF.out⟩
                        case measure => simp [intOf]; omega
                      · by_cases c0 : e.dst < 0
                        · have b0 : decide (e.dst < 0) = true := decide_eq_true (by omega)
                          clear hf
                          go_wp2_with ((go_at_call 7; refine Calls.mono (works17 _) ?_; rintro e wx ⟨rfl, tw⟩))
                          go_ret
                          exact ⟨rfl, (HTK.out.trans ((Touch.refl _ _).alloc _)).trans tw⟩
                        · have b0 : decide (e.dst < 0) = false := decide_eq_false (by omega)
                          by_cases c1 : (N : Int) ≤ e.dst
                          · have b1 : decide ((N : Int) ≤ e.dst) = true := decide_eq_true (by omega)
                            clear hf
                            go_wp2_with ((go_at_call 7; refine Calls.mono (works17 _) ?_; rintro e wx ⟨rfl, tw⟩))
                            go_ret
                            exact ⟨rfl, (HTK.out.trans ((Touch.refl _ _).alloc _)).trans tw⟩
                          · have b1 : decide ((N : Int) ≤ e.dst) = false := decide_eq_false (by omega)
                            by_cases c2 : e.dst = (i : Int)
                            · have b2 : (e.dst == (i : Int)) = true := by simp; omega
                              clear hf
                              go_wp2_with ((go_at_call 7; refine Calls.mono (works17 _) ?_; rintro e wx ⟨rfl, tw⟩))
                              go_ret
                              exact ⟨rfl, (HTK.out.trans ((Touch.refl _ _).alloc _)).trans tw⟩
                            · have b2 : (e.dst == (i : Int)) = false := by simp; omega
                              by_cases c3 : e.cost < 1
                              · have b3 : decide (e.cost < 1) = true := decide_eq_true (by omega)
                                clear hf
                                go_wp2_with ((go_at_call 7; refine Calls.mono (works17 _) ?_; rintro e wx ⟨rfl, tw⟩))
                                go_ret
                                exact ⟨rfl, (HTK.out.trans ((Touch.refl _ _).alloc _)).trans tw⟩
                              · have b3 : decide (e.cost < 1) = false := decide_eq_false (by omega)
                                have b4 : decide (65536 < e.cost) = true := decide_eq_true (by omega)
                                clear hf
                                go_wp2_with ((go_at_call 7; refine Calls.mono (works17 _) ?_; rintro e wx ⟨rfl, tw⟩))
                                go_ret
                                exact ⟨rfl, (HTK.out.trans ((Touch.refl _ _).alloc _)).trans tw⟩
                    · have hkk : k = dg := by omega
                      subst hkk
                      have HFN : Hid (SfF ns (i + 1)) := HF.out.step HY.out ⟨HNT.out, HID.out, HFE.out, by rw [HN.out]; exact HE.out.all (Nat.le_of_eq HDD.out)⟩
                      clear TK
                      go_wp2_with fail
                      go_roundg (N - (i + 1))
                      case measure => have := HG.out; omega
                      case rel => exact ⟨i + 1, by go_num, by omega, rfl, HTK.out, HFN.out⟩
                · have HFD : Hid _ := HFI.out _ rfl
                  clear HFI hnet
                  generalize fdI ns false y.t.id = rr at *
                  have hrr : (rr == (i : Int)) = false := by simpa using hfd
                  go_wp2_with (first | (go_at_call 10; refine Calls.mono HFD.out ?_; rintro e wx ⟨rfl, rfl⟩) | (go_at_call 7; refine Calls.mono (works17 _) ?_; rintro e wx ⟨rfl, tw⟩))
                  go_ret
                  exact ⟨rfl, HTR.out.trans tw⟩
            · rw [hnet] at q0
              clear hnet
              go_wp2_with ((go_at_call 7; refine Calls.mono (works17 _) ?_; rintro e wx ⟨rfl, tw⟩))
              go_ret
              exact ⟨rfl, HTR.out.trans tw⟩
          · have hii : i = N := by omega
            subst hii
            clear hg TR
            have hxr := HXR.out
            subst hxr
            have hall : SfF ns ns.length := by have := HF.out; rw [← HN.out] at this; exact this
            have HALL : Hid _ := hall
            have hn40 : ns.length ≤ 40 := by rw [HN.out]; exact HLN.out.1
            have hgok := ok_steps HOK.out hall HLN.out.2
            have HGK : Hid _ := hgok
            have HGV : Hid _ := fun w' t => given17 w' (.slice a i c) ns (HA.out.keep t) hn40 HLN.out.2
            have HFM : Hid (∀ (gv : Value) (wa wb : World) (q : Nat), GvR wa ns ns.length gv wb → q < i → Calls Try.prog 8 #[gv, .int .i64 (q : Int)] wb fun e w2 => ∃ rb R, e = .returned (.slice (some ⟨rb, 0, none⟩) i i) ∧ LsH i w2 rb R ∧ Touch (fun _ => False) wb w2 ∧ ∃ xx ii s Z, Inv (ns.map (·.t)) 65536 q xx ii s [] R Z ∧ (gn (ns.map (·.t)) xx).edges.length ≤ ii) := by
              intro gv wa wb q GV hq
              obtain ⟨ms, hga, hmt⟩ := GV.gr
              have hml : ms.length = i := by have := congrArg List.length hmt; simpa [HN.out] using this
              have hF := from_any wb gv ms hga q (by rw [hml]; exact hq) 65536 200 (by rw [hmt]; exact HGK.out) (by rw [hml]; have := HLN.out.1; have := HN.out; omega) (by
                have h1 : ms.length ≤ 40 := by rw [hml]; have := HLN.out.1; have := HN.out; omega
                have h2 : (ms.length + 1) * 2 ≤ 82 := by omega
                have h3 : 200 * ((ms.length + 1) * 2) ≤ 16400 := by omega
                have h4 : ms.length * (200 * ((ms.length + 1) * 2)) ≤ 40 * 16400 := Nat.mul_le_mul h1 h3
                omega)
              refine hF.mono ?_
              rintro e w2 ⟨⟨rb, R, H, Z, xx, ii, s, rfl, rr, hh, I, hf⟩, T2⟩
              rw [hml] at rr hh
              rw [hmt] at I hf
              exact ⟨rb, R, by rw [hml], LsH.of rr hh, T2, xx, ii, s, Z, I, hf⟩
            clear hall hgok HF
            go_wp2_with ((go_at_call 9; refine Calls.mono (HGV.out _ HTR.out) ?_; rintro e w1 ⟨gv, rfl, GV⟩; have HGR : Hid _ := GV; clear GV))
            refine Calls.mono (HFM.out gv _ w1 r HGR.out HR.out) ?_
            rintro e w2 ⟨rb, R, rfl, hls, T2, xx, ii, s, Z, I, hf⟩
            have HLS : Hid _ := hls
            have HT2 : Hid (Touch (fun _ => False) w w2) := HTR.out.trans (HGR.out.t.trans T2)
            have hrn : r < ns.length := by rw [HN.out]; exact HR.out
            obtain ⟨yr, hyr⟩ : ∃ y, ns[r]? = some y := ⟨_, List.getElem?_eq_getElem hrn⟩
            have HST : Hid _ := fun vv h hh => step_of HGK.out HALL.out hn40 hrn I hf hyr (v := vv) (h := h) hh
            have HYR : Hid _ := hyr
            have HFW : Hid (∀ vv, ∀ h ∈ (R vv).hops, HopW (ns.map (·.t)) r vv (R vv).cost h) := fun vv h hh => (I.hc vv h hh).1
            have hHN : Hid (∀ vv, (R vv).hops.length ≤ 1000000) := fun vv => by
              have := I.few HGK.out (by simpa using hrn) vv
              simp at this
              have h2 : 200 * ((ns.length + 1) * 2) ≤ 200 * (41 * 2) := by omega
              omega
            have HRC : Hid (∀ vv, 0 ≤ (R vv).cost ∧ (R vv).cost ≤ 4294967295) := I.rc
            have hrl : (r : Int) < (i : Int) := by have := HR.out; omega
            have hr0 : (0 : Int) ≤ (r : Int) := by omega
            rcases HSH.out with e | ⟨g, o, rfl, hc⟩
            · rw [e] at hyr; cases hyr
            have HQR : Hid (w.cell? ⟨g, o + r * 7 + 5, none⟩ = some (.slice yr.ea yr.t.edges.length yr.ec)) := hc r yr hyr 5 _ rfl
            have HDE : Hid _ := HED.out yr (List.mem_of_getElem? hyr)
            have HDG : Hid (yr.t.edges.length ≤ 200) := Nat.le_trans (esum_mem (List.mem_of_getElem? hyr)) HLN.out.2
            have HOY : Hid _ := HOK.out yr (List.mem_of_getElem? hyr)
            have HFY : Hid _ := HALL.out r yr hrn hyr
            have hdg : (yr.t.edges.length : Int) ≤ 200 := by have := HDG.out; omega
            clear hc hyr hls T2 I hf HGR
            generalize hea0 : yr.ea = ea0 at *
            generalize hdd : yr.t.edges.length = dg at *
            have HDD : Hid _ := hdd
            clear hea0 hdd
            go_wp2_with fail
            go_loopg [9, 10, 11, 12, 13, 14, 15, 16] i (fun gg s9 _ _ _ _ _ _ _ wx => ∃ u : Nat, s9 = .int .i64 u ∧ u ≤ i ∧ gg = i - u ∧ Touch (fun _ => False) w2 wx)
            case atStart => exact ⟨0, rfl, Nat.zero_le _, rfl, Touch.refl _ _⟩
            case round =>
              obtain ⟨u, rfl, hu, hg, T3⟩ := hrel
              have HT3 : Hid _ := T3
              have HG : Hid _ := hg
              clear hg
              by_cases hui : u < i
              · have hu0 : (0 : Int) ≤ (u : Int) := by omega
                have hu1 : (u : Int) < (i : Int) := by omega
                obtain ⟨-, -, va, vc, rv2, hhv⟩ := HLS.out.c u hui
                have HRV : Hid (w2.cell? ⟨rb, u * 3 + 2, none⟩ = some (.slice va (R u).hops.length vc)) := rv2
                have HHV : Hid _ := hhv
                have hhn := hHN.out u
                have hhni : ((R u).hops.length : Int) ≤ 1000000 := by omega
                clear T3 rv2 hhv hhn
                generalize hhl : (R u).hops.length = hn at *
                have HHL : Hid _ := hhl
                clear hhl
                go_wp2_with fail
                go_loopg [10, 11, 12, 13, 14, 15, 16] hn (fun gg s10 _ _ _ _ _ _ wx => ∃ k : Nat, s10 = .int .i64 k ∧ k ≤ hn ∧ gg = hn - k ∧ Touch (fun _ => False) w2 wx)
                case atStart => exact ⟨0, rfl, Nat.zero_le _, rfl, HT3.out⟩
                case round =>
                  clear HT3
                  obtain ⟨k, rfl, hk, hgk, T4⟩ := hrel
                  have HT4 : Hid _ := T4
                  have HGK2 : Hid _ := hgk
                  have ru2 : wr.cell? ⟨rb, u * 3 + 2, none⟩ = some (.slice va hn vc) := T4.cellN HRV.out
                  clear hgk
                  by_cases hkn : k < hn
                  · obtain ⟨h, hh⟩ : ∃ h, (R u).hops[k]? = some h := ⟨_, List.getElem?_eq_getElem (by have := HHL.out; omega)⟩
                    rcases HHV.out with e | ⟨hb, rfl, hcc⟩
                    · rw [e] at hh; cases hh
                    have h0 : wr.cell? ⟨hb, k * 3, none⟩ = some (.int .u32 h.out) := T4.cellN (hcc k h hh 0 _ rfl)
                    have h1 : wr.cell? ⟨hb, k * 3 + 1, none⟩ = some (.int .u32 h.via) := T4.cellN (hcc k h hh 1 _ rfl)
                    have h2 : wr.cell? ⟨hb, k * 3 + 2, none⟩ = some (.bool h.vr) := T4.cellN (hcc k h hh 2 _ rfl)
                    obtain ⟨j0, e0, t, hj0, hdt, htn, hfd, hho, hhr, hrest⟩ := HST.out u h (List.mem_of_getElem? hh)
                    have hti : t < i := by rw [← HN.out]; exact htn
                    have TA : Touch (fun _ => False) wr (wr.alloc (.cells #[.int .u32 h.out, .int .u32 h.via, .bool h.vr] 45)) := (Touch.refl _ _).alloc _
                    have HTA : Hid (Touch (fun _ => False) w2 (wr.alloc (.cells #[.int .u32 h.out, .int .u32 h.via, .bool h.vr] 45))) := T4.trans TA
                    have HRH : Hid (Row (wr.alloc (.cells #[.int .u32 h.out, .int .u32 h.via, .bool h.vr] 45)) wr.heap.size 45 [.int .u32 h.out, .int .u32 h.via, .bool h.vr]) := row_new _ _ _
                    have HFD : Hid _ := find17 _ _ ns (HA.out.keep (HT2.out.trans HTA.out)) false h.via (t : Int) hfd
                    have HJ0 : Hid _ := hj0
                    have HDT : Hid _ := hdt
                    have HTI : Hid _ := hti
                    have HHO : Hid _ := hho
                    have HHR : Hid _ := hhr
                    have HRS : Hid _ := hrest
                    have ht0 : (0 : Int) ≤ (t : Int) := by omega
                    have ht1 : decide ((t : Int) < 0) = false := decide_eq_false (by omega)
                    have hk0 : (0 : Int) ≤ (k : Int) := by omega
                    have hk1 : (k : Int) < (hn : Int) := by omega
                    clear hh hcc hj0 hdt htn hfd hho hhr hrest hti T4 TA
                    go_wp2_with (first | (go_at_call 10; refine Calls.mono HFD.out ?_; rintro e wx ⟨rfl, rfl⟩) | (go_at_call 9; refine Calls.mono (HGV.out _ (HT2.out.trans HTA.out)) ?_; rintro e w5 ⟨gv2, rfl, GV2⟩; have HGR2 : Hid _ := GV2; clear GV2))
                    refine Calls.mono (HFM.out gv2 _ w5 t HGR2.out HTI.out) ?_
                    rintro e w6 ⟨rb2, R2, rfl, hls2, T6, xx2, ii2, s2, Z2, I2, hf2⟩
                    obtain ⟨is2, sum2, p2a, p2b⟩ := HRS.out xx2 ii2 s2 R2 Z2 I2 hf2
                    have TW6 := HGR2.out.t.trans T6
                    have HT6 : Hid (Touch (fun _ => False) w2 w6) := HTA.out.trans TW6
                    have RH6 := Row.keep HRH.out TW6
                    have H0 : Hid (w6.cell? ⟨wr.heap.size, 0, none⟩ = some (.int .u32 h.out)) := RH6.cell 0
                    have H2 : Hid (w6.cell? ⟨wr.heap.size, 2, none⟩ = some (.bool h.vr)) := RH6.cell 2
                    obtain ⟨c20, c21, -⟩ := hls2.c u hui
                    rw [is2] at c20
                    have HC2 : Hid (w6.cell? ⟨rb2, u * 3 + 1, none⟩ = some (.int .u32 (R2 u).cost)) := c21
                    have HC1 : Hid (w6.cell? ⟨rb, u * 3 + 1, none⟩ = some (.int .u32 (R u).cost)) := HT6.out.cellN (HLS.out.c u hui).2.1
                    have HSUM : Hid _ := sum2
                    have HPP : Hid _ := And.intro p2a p2b
                    clear is2 sum2 p2a p2b TW6 RH6 c21 hls2 T6 I2 hf2 HGR2 h0 h1 h2 HRH HTA HFD HRS ru2
                    generalize wr.heap.size = hbk at *
                    go_wp2_with fail
                    go_loopg [14, 15, 16] dg (fun gg s14 s15 _ wx => ∃ (j : Nat) (b : Bool), s14 = .bool b ∧ s15 = .int .i64 j ∧ j ≤ dg ∧ gg = dg - j ∧ Hid (j0 < j → b = true) ∧ Touch (fun _ => False) w6 wx)
                    case atStart => exact ⟨0, false, rfl, rfl, Nat.zero_le _, rfl, (show Hid _ from fun h => by omega), Touch.refl _ _⟩
                    case round =>
                      clear c20
                      obtain ⟨j, b, rfl, rfl, hj, hgj, HJB, T7⟩ := hrel
                      have HT7 : Hid _ := T7
                      have HGJ : Hid _ := hgj
                      have q5 : wr.cell? ⟨g, o + r * 7 + 5, none⟩ = some (.slice ea0 dg yr.ec) := (HT2.out.trans (HT6.out.trans T7)).cellN HQR.out
                      have k0 := T7.cellN H0.out
                      have k2 := T7.cellN H2.out
                      have c1 := T7.cellN HC1.out
                      have c2 := T7.cellN HC2.out
                      clear hgj
                      by_cases hjd : j < dg
                      · obtain ⟨e, he⟩ : ∃ e, yr.t.edges[j]? = some e := ⟨_, List.getElem?_eq_getElem (by have := HDD.out; omega)⟩
                        rcases HDE.out with e1 | ⟨eg, eo, rfl, hce⟩
                        · rw [e1] at he; cases he
                        have TT7 := HT2.out.trans (HT6.out.trans T7)
                        have p0 : wr.cell? ⟨eg, eo + j * 4, none⟩ = some (.int .i64 e.dst) := TT7.cellN (hce j e he 0 _ rfl)
                        have p1 : wr.cell? ⟨eg, eo + j * 4 + 1, none⟩ = some (.int .u32 e.cost) := TT7.cellN (hce j e he 1 _ rfl)
                        have p2 : wr.cell? ⟨eg, eo + j * 4 + 2, none⟩ = some (.int .u32 e.data) := TT7.cellN (hce j e he 2 _ rfl)
                        have p3 : wr.cell? ⟨eg, eo + j * 4 + 3, none⟩ = some (.bool e.vr) := TT7.cellN (hce j e he 3 _ rfl)
                        have hem := List.mem_of_getElem? he
                        have hsE := HFY.out.2.2.2 e hem
                        have hj0 : (0 : Int) ≤ (j : Int) := by omega
                        have hj1 : (j : Int) < (dg : Int) := by omega
                        have HIT : Hid (j = j0 → e.dst = (t : Int) ∧ e.data = h.out ∧ e.vr = h.vr ∧ e.cost + (R2 u).cost = (R u).cost) := by
                          intro ej
                          subst ej
                          have e2 := HJ0.out
                          rw [he] at e2
                          injection e2 with e2
                          subst e2
                          exact ⟨HDT.out, HHO.out.symm, HHR.out.symm, HSUM.out⟩
                        have hws : IntKind.u32.wrap (e.cost + (R2 u).cost) = e.cost + (R2 u).cost := IntWalk.u32_in _ (by have := HPP.out; have := hsE.2.2.2; omega)
                        have hbl1 := lt_of_cell k0
                        have hbl2 := lt_of_cell c1
                        have hbl3 := lt_of_cell c2
                        have HTN : Hid (∀ n, Touch (fun _ => False) w6 ((wr.alloc (.cells #[.int .i64 e.dst, .int .u32 e.cost, .int .u32 e.data, .bool e.vr] 33)).drewN n)) := fun n => HT7.out.trans (((Touch.refl _ _).alloc _).drewN n)
                        clear he hce hem hsE T7 TT7
                        generalize hc1 : (R u).cost = cu at *
                        generalize hc2 : (R2 u).cost = cr at *
                        clear hc1 hc2
                        generalize hsum : e.cost + cr = sm at *
                        cases b
                        · by_cases c0 : e.dst = (t : Int)
                          · have b0 : (e.dst == (t : Int)) = true := by simpa using c0
                            have HY0 : Hid _ := c0
                            clear c0
                            by_cases c1 : e.data = h.out
                            · have b1 : (e.data == h.out) = true := by simpa using c1
                              have HY1 : Hid _ := c1
                              clear c1
                              by_cases c2 : e.vr = h.vr
                              · have b2 : (e.vr == h.vr) = true := by simpa using c2
                                have HY2 : Hid _ := c2
                                clear c2
                                by_cases c3 : sm = cu
                                · have b3 : (sm == cu) = true := by simpa using c3
                                  have HY3 : Hid _ := c3
                                  clear c3
                                  go_wp2_with fail
                                  go_quiet (fail)
                                  go_wp2_with fail
                                  go_roundg (dg - (j + 1))
                                  case measure => have := HGJ.out; omega
                                  case rel => exact ⟨j + 1, true, rfl, by go_num, by omega, rfl, (show Hid _ from fun _ => rfl), HTN.out _⟩
                                · have b3 : (sm == cu) = false := by simpa using c3
                                  have HN3 : Hid (¬ sm = cu) := c3
                                  clear c3
                                  go_wp2_with fail
                                  go_quiet (fail)
                                  go_wp2_with fail
                                  go_roundg (dg - (j + 1))
                                  case measure => have := HGJ.out; omega
                                  case rel => exact ⟨j + 1, false, rfl, by go_num, by omega, rfl, (show Hid _ from fun hlt => by
                            rcases Nat.lt_or_ge j0 j with hjj | hjj
                            · exact (HJB.out hjj)
                            · have HI := HIT.out (by omega)
                              exact (HN3.out HI.2.2.2).elim), HTN.out _⟩
                              · have b2 : (e.vr == h.vr) = false := by simpa using c2
                                have HN2 : Hid (¬ e.vr = h.vr) := c2
                                clear c2
                                go_wp2_with fail
                                go_quiet (fail)
                                go_wp2_with fail
                                go_roundg (dg - (j + 1))
                                case measure => have := HGJ.out; omega
                                case rel => exact ⟨j + 1, false, rfl, by go_num, by omega, rfl, (show Hid _ from fun hlt => by
                            rcases Nat.lt_or_ge j0 j with hjj | hjj
                            · exact (HJB.out hjj)
                            · have HI := HIT.out (by omega)
                              exact (HN2.out HI.2.2.1).elim), HTN.out _⟩
                            · have b1 : (e.data == h.out) = false := by simpa using c1
                              have HN1 : Hid (¬ e.data = h.out) := c1
                              clear c1
                              go_wp2_with fail
                              go_quiet (fail)
                              go_wp2_with fail
                              go_roundg (dg - (j + 1))
                              case measure => have := HGJ.out; omega
                              case rel => exact ⟨j + 1, false, rfl, by go_num, by omega, rfl, (show Hid _ from fun hlt => by
                            rcases Nat.lt_or_ge j0 j with hjj | hjj
                            · exact (HJB.out hjj)
                            · have HI := HIT.out (by omega)
                              exact (HN1.out HI.2.1).elim), HTN.out _⟩
                          · have b0 : (e.dst == (t : Int)) = false := by simpa using c0
                            have HN0 : Hid (¬ e.dst = (t : Int)) := c0
                            clear c0
                            go_wp2_with fail
                            go_quiet (fail)
                            go_wp2_with fail
                            go_roundg (dg - (j + 1))
                            case measure => have := HGJ.out; omega
                            case rel => exact ⟨j + 1, false, rfl, by go_num, by omega, rfl, (show Hid _ from fun hlt => by
                            rcases Nat.lt_or_ge j0 j with hjj | hjj
                            · exact (HJB.out hjj)
                            · have HI := HIT.out (by omega)
                              exact (HN0.out HI.1).elim), HTN.out _⟩
                        · go_wp2_with fail
                          go_quiet (fail)
                          go_wp2_with fail
                          go_roundg (dg - (j + 1))
                          case measure => have := HGJ.out; omega
                          case rel => exact ⟨j + 1, true, rfl, by go_num, by omega, rfl, (show Hid _ from fun _ => rfl), HTN.out _⟩
                      · have hjj : j = dg := by omega
                        subst hjj
                        have hbt : b = true := HJB.out (by have := (List.getElem?_eq_some_iff.1 HJ0.out).1; have := HDD.out; omega)
                        subst hbt
                        clear T7
                        go_wp2_with fail
                        go_roundg (hn - (k + 1))
                        case measure => have := HGK2.out; omega
                        case rel => exact ⟨k + 1, by go_num, by omega, rfl, HT6.out.trans HT7.out⟩
                  · have hkk : k = hn := by omega
                    subst hkk
                    clear T4
                    go_wp2_with fail
                    go_roundg (i - (u + 1))
                    case measure => have := HG.out; omega
                    case rel => exact ⟨u + 1, by go_num, by omega, rfl, HT4.out⟩
              · have huu : i = u := by omega
                subst huu
                clear T3
                go_wp2_with ((go_at_call 7; refine Calls.mono (works17 _) ?_; rintro e wx ⟨rfl, tw⟩))
                go_ret
                exact ⟨rfl, (HT2.out.trans HT3.out).trans tw⟩
end Go.Proofs.Ytdfacfpjhnohcaa
