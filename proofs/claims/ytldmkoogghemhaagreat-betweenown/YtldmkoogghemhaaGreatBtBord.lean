import Derived.Test.YtldmkoogghemhaaGreatBtMath
import Derived.Test.YtldmkoogghemhaaGreatInRes1
namespace Go.Proofs.YtldmkoogghemhaaGreat
set_option maxHeartbeats 8000000
open Go.RowKit
set_option linter.unusedVariables false
set_option maxRecDepth 100000
def WY.sv (y:WY):Value:=.agg #[.int .u32 y.x.p.addr,.int .u8 y.x.p.bits,.int .u32 y.x.router,.int .u8 y.x.flags,.int .u8 y.x.kind,.int .u32 y.x.area,.int .u32 y.x.cost,.int .u32 y.x.dist,.int .u32 y.x.tag,y.hv]
def bK (T:List WY):Nat→List WY
 | 0=>[]
 | k+1=>match T[k]? with
  | some y=>if (bK T k).any (fun z=>z.x.router==y.x.router)=false∧y.x.flags%2=1 then bK T k++[y] else bK T k
  | none=>bK T k
def bV (y:WY):Value×Value:=(.int .u32 y.x.router,y.sv)
def isBd (r:Int) (y:WY):Bool:=decide (y.x.flags%2=1)&&y.x.router==r
theorem Qj4 (T:List WY) (r:Int):∀k,(bK T k).find? (fun z=>z.x.router==r)=(T.take k).find? (isBd r)
 | 0=>by simp [bK]
 | k+1=>by
  have ih:=Qj4 T r k
  cases hk:T[k]? with
  | none =>
   have e1:bK T (k+1)=bK T k:=by rw [bK,hk]
   rw [e1,ih,List.take_of_length_le (List.getElem?_eq_none_iff.1 hk),List.take_of_length_le (by have:=List.getElem?_eq_none_iff.1 hk;omega)]
  | some y =>
   have e2:T.take (k+1)=T.take k++[y]:=by rw [List.take_add_one,hk];rfl
   rw [e2,List.find?_append,←ih]
   by_cases hc:(bK T k).any (fun z=>z.x.router==y.x.router)=false∧y.x.flags%2=1
   ·have e1:bK T (k+1)=bK T k++[y]:=by rw [bK,hk];simp only;rw [if_pos hc]
    rw [e1,List.find?_append]
    congr 1
    simp [List.find?,isBd,hc.2]
   ·have e1:bK T (k+1)=bK T k:=by rw [bK,hk];simp only;rw [if_neg hc]
    rw [e1]
    by_cases hf:y.x.flags%2=1
    ·have ha:(bK T k).any (fun z=>z.x.router==y.x.router)=true:=by
      cases h:(bK T k).any (fun z=>z.x.router==y.x.router) with
      | true=>rfl
      | false=>exact absurd ⟨h,hf⟩ hc
     by_cases hr:y.x.router=r
     ·obtain⟨z,hz,he⟩:=List.any_eq_true.1 ha
      cases hq:(bK T k).find? (fun z=>z.x.router==r) with
      | none=>exact absurd (hr ▸ he) (by simpa using List.find?_eq_none.1 hq z hz)
      | some z=>rfl
     ·have:[y].find? (isBd r)=none:=by simp [isBd,hr]
      rw [this,Option.or_none]
    ·have:[y].find? (isBd r)=none:=by simp [isBd,hf]
     rw [this,Option.or_none]
theorem Qol {T:List WY} {k:Nat} {y:WY} (hk:T[k]?=some y) (h:(bK T k).any (fun p=>p.x.router==y.x.router)=false) (hf:y.x.flags%2=1):bK T (k+1)=bK T k++[y]:=by
 rw [bK,hk]
 simp only
 rw [if_pos ⟨h,hf⟩]
theorem Qn5 {T:List WY} {k:Nat} {y:WY} (hk:T[k]?=some y) (h:¬((bK T k).any (fun p=>p.x.router==y.x.router)=false∧y.x.flags%2=1)):bK T (k+1)=bK T k:=by
 rw [bK,hk]
 simp only
 rw [if_neg h]
theorem Qfc {T:List WY}:∀{k:Nat} {y:WY},y∈bK T k→y∈T
 | 0,y,h=>by cases h
 | k+1,y,h=>by
  unfold bK at h
  cases hk:T[k]? with
  | none=>rw [hk] at h;exact Qfc h
  | some z =>
   rw [hk] at h
   simp only at h
   split at h
   ·rcases List.mem_append.1 h with h|h
    ·exact Qfc h
    ·obtain rfl:=List.mem_singleton.1 h
     exact List.mem_of_getElem? hk
   ·exact Qfc h
theorem Qma {L:List WY} {r:Int} (h:L.any (fun p=>p.x.router==r)=false):∀p∈L.map bV,p.1≠.int .u32 r:=by
 intro p hp e
 obtain⟨q,hq,rfl⟩:=List.mem_map.1 hp
 have h2:=List.any_eq_false.1 h q hq
 unfold bV at e
 simp only [Value.int.injEq,true_and] at e
 exact h2 (by rw [beq_iff_eq];exact e)
theorem Qo2 (L:List WY) (r:Int):(∃(j:Nat) (y:WY),L[j]?=some y∧y.x.router=r∧L.find? (fun z=>z.x.router==r)=some y∧L.any (fun z=>z.x.router==r)=true)∨(L.any (fun z=>z.x.router==r)=false∧L.find? (fun z=>z.x.router==r)=none):=by
 cases h:L.find? (fun z=>z.x.router==r) with
 | none=>exact Or.inr ⟨List.any_eq_false.2 (fun p hp=>List.find?_eq_none.1 h p hp),rfl⟩
 | some y =>
  have h1:=List.find?_some h
  have hm:=List.mem_of_find?_eq_some h
  obtain⟨j,hj⟩:=List.mem_iff_getElem?.1 hm
  exact Or.inl ⟨j,y,hj,by simpa using h1,rfl,List.any_eq_true.2 ⟨y,hm,h1⟩⟩
theorem kindW:MI 23 118 47 (.agg #[.int .u32 0,.int .u8 0,.int .u32 0,.int .u8 0,.int .u8 0,.int .u32 0,.int .u32 0,.int .u32 0,.int .u32 0,.slice none 0 0]):=⟨Go.Maps.int_keyed Tryz.underlying23,Tryz.underlying118,fun _=>rfl⟩
structure B1 (w:World) (T:List WY) (m k:Nat) (wr:World):Prop where
 am:AM wr 23 m ((bK T k).map bV)
 t:Touch (fun _=>False) w wr
 lo:w.heap.size≤m
theorem B1.keep {w wr w':World} {T:List WY} {m k:Nat} (h:B1 w T m k wr) (t:Touch (fun _=>False) wr w'):B1 w T m k w':=⟨h.am.keepN t,h.t.trans t,h.lo⟩
theorem Qg6 {w:World} {m:Nat} {L:List WY} (h:AM w 23 m (L.map bV)) {r:Int} (hr:0≤r∧r≤4294967295) :
  (∃y,L.find? (fun z=>z.x.router==r)=some y∧L.any (fun z=>z.x.router==r)=true∧y∈L∧(Instr.lookup 118 (.map (some m)) (.int .u32 r) true).run Tryz.prog w=.ok (.tuple #[y.sv,.bool true]) w) ∨
  (L.find? (fun z=>z.x.router==r)=none∧L.any (fun z=>z.x.router==r)=false∧(Instr.lookup 118 (.map (some m)) (.int .u32 r) true).run Tryz.prog w=.ok (.tuple #[.agg #[.int .u32 0,.int .u8 0,.int .u32 0,.int .u8 0,.int .u8 0,.int .u32 0,.int .u32 0,.int .u32 0,.int .u32 0,.slice none 0 0],.bool false]) w):=by
 rcases Qo2 L r with⟨j,y,hj,rfl,hf,ha⟩|⟨ha,hf⟩
 ·exact Or.inl ⟨y,hf,ha,List.mem_of_getElem? hj,AM.hitI kindW h (j:=j) (by rw [List.getElem?_map,hj];rfl)⟩
 ·obtain⟨q,hq⟩:=Qkd r hr
  exact Or.inr ⟨hf,ha,AM.missI kindW h hq (Qma ha)⟩
theorem B1.put {w wr:World} {T:List WY} {m k:Nat} (h:B1 w T m k wr) {y:WY} (hk:T[k]?=some y) (hr:0≤y.x.router∧y.x.router≤4294967295) (ha:(bK T k).any (fun p=>p.x.router==y.x.router)=false) (hf:y.x.flags%2=1) :
  ∃w',(Instr.mapUpdate 118 (.map (some m)) (.int .u32 y.x.router) y.sv).run Tryz.prog wr=.ok () w'∧B1 w T m (k+1) w':=by
 obtain⟨q,hq⟩:=Qkd y.x.router hr
 obtain⟨w',h1,h2,h3⟩:=AM.putNewI kindW h.am y.sv hq (Qma ha)
 refine⟨w',h1,?_,h.t.trans' h3 (fun i hi e=>by subst e;have:=h.lo;omega),h.lo⟩
 rw [Qol hk ha hf,List.map_append]
 exact h2
theorem B1.old {w wr:World} {T:List WY} {m k:Nat} (h:B1 w T m k wr) {y:WY} (hk:T[k]?=some y) (ha:¬((bK T k).any (fun p=>p.x.router==y.x.router)=false∧y.x.flags%2=1)):B1 w T m (k+1) wr :=
 ⟨by rw [Qn5 hk ha];exact h.am,h.t,h.lo⟩
theorem Qjw (f:Int) (h0:0≤f) (h1:f≤255):bits .and .u8 f 1=f%2:=by
 have h:∀n:Fin 256,bits .and .u8 (n.1:Int) 1=(n.1:Int)%2:=by decide
 have:=h ⟨f.toNat,by omega⟩
 simpa [Int.toNat_of_nonneg h0] using this
structure BordP (w:World) (T:List WY) (e:Ending) (w':World):Prop where
 out:∃m,e=.returned (.map (some m))∧B1 w T m T.length w'
theorem Qd8 (va:Value) (T:List WY) (w:World) (C:WRd w va T) (hf:∀y∈T,0≤y.x.flags∧y.x.flags≤255) (ht:T.length≤60) :
  Calls Tryz.prog 67 #[va] w (BordP w T):=by
 obtain⟨ba,bc,rfl,hB⟩:=C.sh
 have HC:Hid (∀w',Touch (fun _=>False) w w'→WRd w' (.slice ba T.length bc) T):=fun w' t=>C.keep t
 have HRB:Hid (∀w',Touch (fun _=>False) w w'→RwAt WY.cs 10 w' ba T):=fun w' t=>Qch hB t
 have HF:Hid (∀y∈T,0≤y.x.flags∧y.x.flags≤255):=hf
 have ht':(T.length:Int)≤60:=by omega
 have HTB:Hid (T.length≤60):=ht
 have hmm:∀w,(Instr.makeMap 118 none).run Tryz.prog w=.ok (.map (some w.heap.size)) (w.alloc (.map #[] 0)):=fun w=>by simp [Instr.makeMap]
 obtain⟨wm,hwm⟩:∃u,u=w.alloc (.map #[] 0):=⟨_,rfl⟩
 have HR0:Hid (B1 w T w.heap.size 0 wm):=by rw [hwm];exact⟨AM.made w _ 0,(Touch.refl _ _).alloc _,Nat.le_refl _⟩
 clear C hB hf ht
 generalize hTl:T.length=t at *
 have HTLn:Hid (T.length=t):=hTl
 clear hTl
 go_enter Tryz.func67,Tryz.ntmps67
 go_upto_region 2 with fail
 rw [←hwm]
 clear hwm hmm
 generalize hm0:w.heap.size=m at HR0 ⊢
 clear hm0
 go_wp2_with fail
 go_loopw [11] (fun s11 wr=>∃k:Nat,k≤t∧s11=.int .i64 k∧B1 w T m k wr) (fun s11 _=>t-(intOf s11).toNat)
 case atStart=>exact⟨0,Nat.zero_le _,rfl,HR0.out⟩
 case round =>
  obtain⟨k,hk,rfl,hr⟩:=hrel
  have HR:Hid (B1 w T m k wr):=hr
  clear HR0 hr
  by_cases hlt:k<t
  ·as_aux_lemma =>
   have hlt':(k:Int)<(t:Int):=Qbl hlt
   have hk00:(0:Int)≤(k:Int):=Qa6 _
   have hkw:wrap64 ((k:Int)+1)=(k:Int)+1:=Qes (Nat.le_trans (Nat.le_trans (Nat.le_of_lt hlt) HTB.out) (by decide))
   obtain⟨y,hy⟩:=Qco HTLn.out hlt
   have hX:Hid (T[k]?=some y):=hy
   have hRt:=(HC.out wr HR.out.t).rt y (List.mem_of_getElem? hy)
   have hFl:=HF.out y (List.mem_of_getElem? hy)
   obtain⟨a1,c1,e1⟩:=ValsAt.form ((HC.out wr HR.out.t).hs y (List.mem_of_getElem? hy))
   obtain⟨g,oo,rfl,⟨e0,e1',e2,e3,e4,e5,e6,e7,e8,e9⟩⟩:=Qbq (HRB.out wr HR.out.t) hy
   have HV:Hid (y.hv=.slice a1 y.x.hs.length c1):=e1.1
   rw [e1.1] at e9
   have lg:=Qaa e0
   obtain⟨wa,hwa⟩:∃u,u=wr.alloc (.cells #[.int .u32 y.x.p.addr,.int .u8 y.x.p.bits,.int .u32 y.x.router,.int .u8 y.x.flags,.int .u8 y.x.kind,.int .u32 y.x.area,.int .u32 y.x.cost,.int .u32 y.x.dist,.int .u32 y.x.tag,.slice a1 y.x.hs.length c1] 47):=⟨_,rfl⟩
   have ta:Touch (fun _=>False) wr wa:=by rw [hwa];exact (Touch.refl _ _).alloc _
   have RX:Row wa wr.heap.size 47 [.int .u32 y.x.p.addr,.int .u8 y.x.p.bits,.int .u32 y.x.router,.int .u8 y.x.flags,.int .u8 y.x.kind,.int .u32 y.x.area,.int .u32 y.x.cost,.int .u32 y.x.dist,.int .u32 y.x.tag,.slice a1 y.x.hs.length c1]:=by rw [hwa];exact Qac _ _ _
   have u0:wa.cell? ⟨wr.heap.size,0,none⟩=some (.int .u32 y.x.p.addr):=RX.cell 0
   have u1:wa.cell? ⟨wr.heap.size,1,none⟩=some (.int .u8 y.x.p.bits):=RX.cell 1
   have u2:wa.cell? ⟨wr.heap.size,2,none⟩=some (.int .u32 y.x.router):=RX.cell 2
   have u3:wa.cell? ⟨wr.heap.size,3,none⟩=some (.int .u8 y.x.flags):=RX.cell 3
   have u4:wa.cell? ⟨wr.heap.size,4,none⟩=some (.int .u8 y.x.kind):=RX.cell 4
   have u5:wa.cell? ⟨wr.heap.size,5,none⟩=some (.int .u32 y.x.area):=RX.cell 5
   have u6:wa.cell? ⟨wr.heap.size,6,none⟩=some (.int .u32 y.x.cost):=RX.cell 6
   have u7:wa.cell? ⟨wr.heap.size,7,none⟩=some (.int .u32 y.x.dist):=RX.cell 7
   have u8:wa.cell? ⟨wr.heap.size,8,none⟩=some (.int .u32 y.x.tag):=RX.cell 8
   have u9:wa.cell? ⟨wr.heap.size,9,none⟩=some (.slice a1 y.x.hs.length c1):=RX.cell 9
   have lx:=RX.lt
   have Ra:=HR.out.keep ta
   have HCa:Hid (WRd wa (.slice (some ⟨g,oo,none⟩) t bc) T):=HC.out wa Ra.t
   have hlook:=Qg6 Ra.am hRt
   generalize hhl:y.x.hs.length=hl at *
   go_upto_region 5 with fail
   rw [←hwa]
   clear hwa e0 e1' e2 e3 e4 e5 e6 e7 e8 e9 lg RX ta e1
   rcases hlook with⟨z,-,hany,hzm,hlk⟩|⟨-,hany,hlk⟩
   ·as_aux_lemma =>
    obtain⟨za,zc,ez⟩:=ValsAt.form (HCa.out.hs z (Qfc hzm))
    unfold WY.sv at hlk
    rw [ez.1] at hlk
    have HN:Hid (B1 w T m (k+1) wa):=Ra.old hX.out (fun h=>by rw [hany] at h;cases h.1)
    clear Ra hany hRt HR ez hzm
    go_wp2_with fail
    go_roundw
    case rel=>exact⟨k+1,hlt,by first|exact Qam hkw|exact Qam rfl,HN.out.keep ((Touch.refl _ _).alloc _)⟩
    case measure=>first|exact Qax hlt hkw|exact Qax hlt rfl
   ·by_cases hf1:y.x.flags%2=1
    ·as_aux_lemma =>
     have hbit:bits .and .u8 y.x.flags 1=1:=by rw [Qjw _ hFl.1 hFl.2,hf1]
     obtain⟨wp,hput,hp⟩:=(Ra.keep ((Touch.refl (fun _=>False) wa).alloc (.cells #[.int .u32 0,.int .u8 0,.int .u32 0,.int .u8 0,.int .u8 0,.int .u32 0,.int .u32 0,.int .u32 0,.int .u32 0,.slice none 0 0] 47))).put hX.out hRt hany hf1
     have HN:Hid (B1 w T m (k+1) wp):=hp
     unfold WY.sv at hput
     rw [HV.out] at hput
     clear Ra hany hRt HR hp hf1 hFl
     go_wp2_with fail
     go_roundw
     case rel=>exact⟨k+1,hlt,by first|exact Qam hkw|exact Qam rfl,HN.out⟩
     case measure=>first|exact Qax hlt hkw|exact Qax hlt rfl
    ·as_aux_lemma =>
     have hbit:bits .and .u8 y.x.flags 1=0:=by rw [Qjw _ hFl.1 hFl.2];omega
     have HN:Hid (B1 w T m (k+1) wa):=Ra.old hX.out (fun h=>hf1 h.2)
     clear Ra hany hRt HR hf1 hFl
     go_wp2_with fail
     go_roundw
     case rel=>exact⟨k+1,hlt,by first|exact Qam hkw|exact Qam rfl,HN.out.keep ((Touch.refl _ _).alloc _)⟩
     case measure=>first|exact Qax hlt hkw|exact Qax hlt rfl
  ·skip
   have hlt':¬(k:Int)<(t:Int):=Qju hlt
   obtain rfl:t=k:=(Nat.le_antisymm hk (Nat.le_of_not_lt hlt)).symm
   have HF2:Hid (B1 w T m T.length wr):=by rw [HTLn.out];exact HR.out
   clear HR
   go_wp2_with fail
   go_ret
   exact⟨m,rfl,HF2.out⟩
end Go.Proofs.YtldmkoogghemhaaGreat
