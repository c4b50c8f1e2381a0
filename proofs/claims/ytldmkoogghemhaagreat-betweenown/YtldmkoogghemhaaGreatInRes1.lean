import Derived.Test.YtldmkoogghemhaaGreatStCopy
import Derived.Deep.LoopGhost
namespace Go.Proofs.YtldmkoogghemhaaGreat
set_option maxHeartbeats 8000000
open Go.RowKit
set_option linter.unusedVariables false
set_option maxRecDepth 100000
theorem infoS9g:(Tryz.prog.info? 59).map (fun i=>(i.zero,i.size,i.bytes))=some (some (.agg #[.int .u16 0,.int .u8 0,.int .u8 0,.int .u32 0,.int .u32 0,.int .i32 0,.int .u16 0,.int .u16 0,.slice none 0 0]),9,48):=by kernel_rfl
section
variable {ops:Array Oper} {rest:List Oper} {o:Oper} {a:Act} {Q:Exit→Act→World→Prop} {w:World}
theorem Qce (hgd:o.guard=none) (s x:Operand) (t:TypeId) (ho:o.op=.call { callee:=.builtin .append,args:=#[s,x],argTypes:=#[t,t] })
  (e k bytes:Nat) (z:Value) (ht:Tryz.prog.underlying t=some (.slice e)) (hi:(Tryz.prog.info? e).map (fun i=>(i.zero,i.size,i.bytes))=some (some z,k,bytes)) (hzs:z.cells.size=k) (hk:0<k) (hby:bytes≤64)
  (base:Nat) (v:Value) (n:Nat) (xs:List Value) (hs:a.eval s=v) (hb:w.ownsRow base e k v n xs) (hbase:base≤w.heap.size) (ad:Addr) (m c:Nat) (news:List Value) (hx:a.eval x=.slice (some ad) m c) (hnl:news.length=m*k) (hr:∀j u,news[j]?=some u→w.cell? (ad.add j)=some u) (h1:∀u∈news,u.oneCell'=true) (hl:n+m≤1099511627776)
  (h:∀v' w',w'.ownsRow base e k v' (n+m) (xs++news)→Touch (fun j=>v.ownBlock=some j) w w'→wpList Tryz.prog ops Q rest (a.put o.dst v') w'):wpList Tryz.prog ops Q (o::rest) a w:=by
 obtain⟨i0,hi,hz0,hz1,hz2⟩:=info_parts hi
 have hmul:(n+m)*bytes≤1099511627776*64:=Nat.mul_le_mul hl hby
 refine wpList_append_own_at w hgd s x t ho base e i0 z k bytes ht hi hz0 hz1 hz2 hzs hk v n xs hs hb ad m c news hx hnl hr h1 (by unfold maxLen;omega) (by omega) hbase ?_
 intro v' w' hown hg _ _
 exact h v' w' hown ((Touch.refl _ _).grown hg (fun k hk=>Or.inl hk))
end
structure GSzR (l:List SE) (gg:Nat) (s3 s4:Value) (w wr:World):Prop where
 out:∃k N:Nat,k≤l.length∧gg=l.length-k∧s3=.int .i64 (N:Int)∧s4=.int .i64 (k:Int)∧N≤3000000000000000∧20*l.length≤N∧(∀i x,i<k→l[i]?=some x→x.rs.length≤N)∧wr=w
theorem gsstates (v:Value) (l:List SE) (w:World) (hv:StatesAt w v l) (hs:l.length≤140737488355328) (hb:∀x∈l,x.rs.length≤140737488355328) :
  Calls Tryz.prog 23 #[v] w fun e w'=>∃N:Nat,e=.returned (.int .i64 (N:Int))∧N≤3000000000000000∧(N≤262144→20*l.length≤N∧∀x∈l,x.rs.length≤N)∧w'=w:=by
 obtain⟨va,vc,rfl,-⟩:=ValsAt.form hv.vals
 have HV:Hid (StatesAt w (.slice va l.length vc) l):=hv
 have HB:Hid (∀x∈l,x.rs.length≤140737488355328):=hb
 have h20:wrap64 (20*(l.length:Int))=((20*l.length:Nat):Int):=by unfold wrap64;omega
 have REL:Hid (GSzR l l.length (.int .i64 ((20*l.length:Nat):Int)) (.int .i64 0) w w):=⟨0,20*l.length,by omega,by omega,rfl,rfl,by omega,by omega,by omega,rfl⟩
 clear hv hb
 go_enter Tryz.func23,Tryz.ntmps23
 go_wp2_with fail
 go_loopg [3,4] l.length (fun gg s3 s4 wr=>GSzR l gg s3 s4 w wr)
 case atStart=>exact REL.out
 case round =>
  obtain⟨k,N,hk,hgg,rfl,rfl,hN,hlo,hall,rfl⟩:=hrel.out
  have HA:Hid (∀i x,i<k→l[i]?=some x→x.rs.length≤N):=hall
  have HL:Hid (20*l.length≤N):=hlo
  clear REL hrel h20 hall hlo
  by_cases hlt:k<l.length
  ·have hlt':(k:Int)<(l.length:Int):=by omega
   by_cases hn:N≤2147483647
   ·have hn':(N:Int)≤2147483647:=by omega
    have hk00:(0:Int)≤(k:Int):=by omega
    obtain⟨x,hx⟩:∃x,l[k]?=some x:=⟨l[k],List.getElem?_eq_getElem _⟩
    obtain⟨ox,g,o,c,eg,hc⟩:=StatesAt.one HV.out hx
    obtain⟨xa,xc,ex,-⟩:=ox.arg.form
    simp only [Value.slice.injEq] at eg
    obtain⟨rfl,-,rfl⟩:=eg
    have xl:=HB.out x (List.mem_of_getElem? hx)
    have x8:wr.cell? ⟨g,o+k*9+8,none⟩=some (.slice xa x.rs.length xc):=by rw [←ex];rw [Nat.add_assoc];exact hc 8 _ rfl
    have HN:Hid (GSzR l (l.length-(k+1)) (.int .i64 ((N+x.rs.length:Nat):Int)) (.int .i64 ((k+1:Nat):Int)) wr wr):=by
     refine⟨k+1,N+x.rs.length,by omega,rfl,rfl,rfl,by omega,by have:=HL.out;omega,fun i y hi hy=>?_,rfl⟩
     rcases Nat.lt_or_ge i k with h|h
     ·have:=HA.out i y h hy;omega
     ·obtain rfl:i=k:=by omega
      rw [hx] at hy
      obtain rfl:=Option.some.inj hy
      omega
    have hkw:wrap64 ((k:Int)+1)=((k+1:Nat):Int):=by unfold wrap64;omega
    clear ox hc ex hx HV HB HA HL
    generalize x.rs.length=L at *
    have hnw:wrap64 ((N:Int)+(L:Int))=((N+L:Nat):Int):=by unfold wrap64;omega
    go_wp2_with fail
    go_roundg (l.length-(k+1))
    case measure=>omega
    case rel=>exact HN.out
   ·have hn':¬(N:Int)≤2147483647:=by omega
    go_wp2_with fail
    go_ret
    exact⟨N,rfl,hN,fun h=>by omega,rfl⟩
  ·obtain rfl:k=l.length:=by omega
   have hlt':¬(l.length:Int)<(l.length:Int):=by omega
   go_wp2_with fail
   go_ret
   exact⟨N,rfl,hN,fun h=>⟨HL.out,fun x hx=>by obtain⟨i,hi,e⟩:=List.mem_iff_getElem.mp hx;exact HA.out i x hi (by rw [←e];exact List.getElem?_eq_getElem hi)⟩,rfl⟩
theorem Qbw (a b c d e f g h i:Int) (x:Option Addr) (n q:Nat):∀u∈([.int .u32 a,.int .u8 b,.int .u32 c,.int .u8 d,.int .u8 e,.int .u32 f,.int .u32 g,.int .u32 h,.int .u32 i,.slice x n q]:List Value),u.oneCell'=true:=by
 intro u hu
 simp at hu
 rcases hu with rfl|rfl|rfl|rfl|rfl|rfl|rfl|rfl|rfl|rfl <;> rfl
structure WRd (w:World) (v:Value) (N:List WY):Prop where
 sh:∃a c,v=.slice a N.length c∧RwAt WY.cs 10 w a N
 hs:∀y∈N,HV3 w y.hv y.x.hs
 rt:∀y∈N,0≤y.x.router∧y.x.router≤4294967295
 vi:∀y∈N,∀h∈y.x.hs,0≤h.via∧h.via≤4294967295
 ln:∀y∈N,y.x.hs.length≤400
theorem Qch {α:Type} {cs:α→List Value} {k:Nat} {w w':World} {a:Option Addr} {l:List α} (h:RwAt cs k w a l) (t:Touch (fun _=>False) w w'):RwAt cs k w' a l:=by
 rcases h with e|⟨g,o,rfl,hc⟩
 ·exact Or.inl e
 ·exact Or.inr ⟨g,o,rfl,fun i x hx d u hd=>t.cellN (hc i x hx d u hd)⟩
theorem WRd.keep {w w':World} {v:Value} {N:List WY} (h:WRd w v N) (t:Touch (fun _=>False) w w'):WRd w' v N:=by
 obtain⟨⟨a,c,e,hr⟩,h1,h2,h3,h4⟩:=h
 exact⟨⟨a,c,e,Qch hr t⟩,fun y hy=>ValsAt.keep (h1 y hy) t,h2,h3,h4⟩
structure W10 (w:World) (g o:Nat) (y:WY):Prop where
 e0:w.cell? ⟨g,o,none⟩=some (.int .u32 y.x.p.addr)
 e1:w.cell? ⟨g,o+1,none⟩=some (.int .u8 y.x.p.bits)
 e2:w.cell? ⟨g,o+2,none⟩=some (.int .u32 y.x.router)
 e3:w.cell? ⟨g,o+3,none⟩=some (.int .u8 y.x.flags)
 e4:w.cell? ⟨g,o+4,none⟩=some (.int .u8 y.x.kind)
 e5:w.cell? ⟨g,o+5,none⟩=some (.int .u32 y.x.area)
 e6:w.cell? ⟨g,o+6,none⟩=some (.int .u32 y.x.cost)
 e7:w.cell? ⟨g,o+7,none⟩=some (.int .u32 y.x.dist)
 e8:w.cell? ⟨g,o+8,none⟩=some (.int .u32 y.x.tag)
 e9:w.cell? ⟨g,o+9,none⟩=some y.hv
theorem Qbq {w:World} {a:Option Addr} {N:List WY} (h:RwAt WY.cs 10 w a N) {k:Nat} {y:WY} (hy:N[k]?=some y):∃g o,a=some ⟨g,o,none⟩∧W10 w g (o+k*10) y:=by
 rcases h with e|⟨g,o,rfl,hc⟩
 ·rw [e] at hy;cases hy
 ·exact⟨g,o,rfl,hc k y hy 0 _ rfl,hc k y hy 1 _ rfl,hc k y hy 2 _ rfl,hc k y hy 3 _ rfl,hc k y hy 4 _ rfl,hc k y hy 5 _ rfl,hc k y hy 6 _ rfl,hc k y hy 7 _ rfl,hc k y hy 8 _ rfl,hc k y hy 9 _ rfl⟩
structure R1 (w:World) (T:List WP) (m k:Nat) (wr:World):Prop where
 am:AM wr 23 m ((fK T k).map fV)
 t:Touch (fun _=>False) w wr
 lo:w.heap.size≤m
theorem R1.keep {w wr w':World} {T:List WP} {m k:Nat} (h:R1 w T m k wr) (t:Touch (fun _=>False) wr w'):R1 w T m k w':=⟨h.am.keepN t,h.t.trans t,h.lo⟩
structure R2 (w:World) (N T:List WP) (m k:Nat) (s10 s11:Value) (wr:World):Prop where
 am:AM wr 23 m ((fK T T.length).map fV)
 lo:w.heap.size≤m
 all:∃M:List WY,WB1 w wr s10 M∧M.map (·.x)=(N.take k).filterMap (resW T)∧M.length≤k
 ls:∃hs:List HL,LsB w.heap.size wr s11 hs
structure R3 (w:World) (N T:List WP) (m k b:Nat) (y:WY) (s10 s11:Value) (L:List (List HK)) (wx:World):Prop where
 am:AM wx 23 m ((fK T T.length).map fV)
 lo:w.heap.size≤m
 box:Row wx b 47 y.cs
 lb:w.heap.size≤b
 nb:s10.ownBlock≠some b
 all:∃M:List WY,WB1 w wx s10 M∧M.map (·.x)=(N.take k).filterMap (resW T)∧M.length≤k
 ls:∃hs:List HL,LsB w.heap.size wx s11 hs∧hs.map Prod.snd=L∧∀h∈hs,HO wx h.1 h.2
theorem R3.keep {w wr w':World} {N T:List WP} {m k b:Nat} {y:WY} {s10 s11:Value} {L:List (List HK)} (h:R3 w N T m k b y s10 s11 L wr) (t:Touch (fun _=>False) wr w'):R3 w N T m k b y s10 s11 L w':=by
 obtain⟨h1,h2,hb,hlb,hnb,⟨M,h3,h4⟩,hs,h5,h6,h7⟩:=h
 exact⟨h1.keepN t,h2,hb.keep t,hlb,hnb,⟨M,h3.keep t,h4⟩,hs,Qab h5 t (fun _ _ h=>h),h6,fun x hx=>Qab (h7 x hx) t (fun _ _ h=>h)⟩
structure R4 (w:World) (N T:List WP) (m k b:Nat) (x:WP) (r:Value) (s10 s11:Value) (wx:World):Prop where
 am:AM wx 23 m ((fK T T.length).map fV)
 lo:w.heap.size≤m
 box:Row wx b 47 (⟨x,r⟩:WY).cs
 ho:HO wx r x.hs
 nb:s10.ownBlock≠some b
 all:∃M:List WY,WB1 w wx s10 M∧M.map (·.x)=(N.take k).filterMap (resW T)∧M.length≤k
 ls:∃hs:List HL,LsB w.heap.size wx s11 hs
theorem R4.keep {w wr w':World} {N T:List WP} {m k b:Nat} {x:WP} {r s10 s11:Value} (h:R4 w N T m k b x r s10 s11 wr) (t:Touch (fun _=>False) wr w'):R4 w N T m k b x r s10 s11 w':=by
 obtain⟨h1,h2,hb,ho,hnb,⟨M,h3,h4⟩,hs,h5⟩:=h
 exact⟨h1.keepN t,h2,hb.keep t,Qab ho t (fun _ _ h=>h),hnb,⟨M,h3.keep t,h4⟩,hs,Qab h5 t (fun _ _ h=>h)⟩
end Go.Proofs.YtldmkoogghemhaaGreat
