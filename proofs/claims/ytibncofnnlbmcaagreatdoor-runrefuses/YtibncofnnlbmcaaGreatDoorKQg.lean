import Derived.Test.YtibncofnnlbmcaaGreatDoorKQf
import Derived.Test.YtibncofnnlbmcaaGreatDoorKQa
set_option maxRecDepth 100000
set_option maxHeartbeats 4000000
namespace Go.Proofs.YtibncofnnlbmcaaGreatDoor
open Go.RowKit Go.Maps
open Tp (Bs X S G Pr Pt Rs Rr Own)
theorem RepS.getS {w:World}{D:Nat->Prop}:∀(l:List S) (cs:List Value),RepS w D l cs->∀ i (h:i<l.length),∃(tv ev:Value) (ls vs tcs ecs:List Value),
  (∀ j,j<7->cs[i * 7+j]?=[Value.int .i64 (l[i].code:Int),.int .i64 (l[i].pos:Int),.string (bs l[i].name),ls.headD (.pointer none),vs.headD (.pointer none),tv,ev][j]?)/\RepL w D l[i].index ls/\ls.length<=1/\RepL w D l[i].value vs/\vs.length<=1/\RepS w D l[i].thn tcs/\OwnS w D tv l[i].thn.length tcs/\RepS w D l[i].els ecs/\OwnS w D ev l[i].els.length ecs:=by
 intro l
 induction l with
 | nil=>intro cs _ i h;simp at h
 | cons x l ih =>
  intro cs hr i h
  obtain⟨code,pos,name,index,value,thn,els⟩:=x
  rw[RepS]at hr
  obtain⟨tv,ev,ls,vs,tcs,ecs,cs',h1,h2,h3,h4,h5,h6,h7,h8,h9,h10⟩:=hr
  subst h1
  cases i with
  | zero =>
   refine⟨tv,ev,ls,vs,tcs,ecs,fun j hj=>?_,h2,h3,h4,h5,h6,h7,h8,h9⟩
   rw[Nat.zero_mul,Nat.zero_add,List.getElem?_append_left (by simpa using hj)]
   rfl
  | succ i =>
   obtain⟨tv',ev',ls',vs',tcs',ecs',q1,q2⟩:=ih cs' h10 i (by simpa using h)
   refine⟨tv',ev',ls',vs',tcs',ecs',fun j hj=>?_,q2⟩
   rw[List.getElem?_append_right (by simp;omega)]
   have:(i+1) * 7+j - [Value.int .i64 (code:Int),.int .i64 (pos:Int),.string (bs name),ls.headD (.pointer none),vs.headD (.pointer none),tv,ev].length=i * 7+j:=by simp;omega
   rw[this,q1 j hj]
   rfl
theorem Ss.at {c:Cx}{lo:Lo}{names:List Bs}{l:List S}{a:Option Addr}{n cp:Nat}(h:Ss c lo names l (.slice a n cp)) (i:Nat) (hi:i<l.length):∃ b,a=some ⟨b,0,none⟩/\b<c.w0.heap.size/\StAt c l[i] b (i * 7):=by
 obtain⟨cs,r1,r2⟩:=h.rep
 rcases r2 with⟨_,h2⟩|⟨g,cap,cur,e1,e2,e3,e4,e5,e6,e7⟩
 ·omega
 ·injection e1 with e1 _ _
  obtain⟨tv,ev,ls,vs,tcs,ecs,q1,q2⟩:=RepS.getS l cs r1 i hi
  have hc:∀ j,j<7->c.w0.cell? ⟨g,i * 7+j,none⟩=[Value.int .i64 (l[i].code:Int),.int .i64 (l[i].pos:Int),.string (bs l[i].name),ls.headD (.pointer none),vs.headD (.pointer none),tv,ev][j]?:=fun j hj=>by
   rw[za e3,<-Array.getElem?_toList,<-q1 j hj,<-e7,List.getElem?_take_of_lt (by omega)]
  exact⟨g,e1,zf e3,e2,tv,ev,ls,vs,tcs,ecs,hc 0 (by omega),hc 2 (by omega),hc 3 (by omega),hc 4 (by omega),hc 5 (by omega),hc 6 (by omega),q2⟩
theorem ws_mem {l:List S}(h:Tp.WS l):∀ y∈l,Tp.WS [y]:=by
 induction l with
 | nil=>intro y hy;cases hy
 | cons x t ih =>
  intro y hy
  obtain⟨code,pos,nm,ix,vl,th,el⟩:=x
  rw[Tp.WS]at h
  rcases List.mem_cons.1 hy with e|e
  ·rw[e,Tp.WS];exact⟨h.1,by rw[Tp.WS];trivial⟩
  ·exact ih h.2 y e
theorem rs_consQ (x:S) (l:List S):Tp.rs (x :: l)=Tp.rs [x]++Tp.rs l:=by
 obtain⟨code,pos,nm,ix,vl,th,el⟩:=x
 simp[Tp.rs]
theorem rs_mem {l:List S}:∀ {y:S},y∈l->∀ r∈Tp.rs [y],r∈Tp.rs l:=by
 induction l with
 | nil=>intro y hy;cases hy
 | cons x t ih =>
  intro y hy r hr
  rw[rs_consQ]
  rcases List.mem_cons.1 hy with e|e
  ·rw[<-e];exact List.mem_append_left _ hr
  ·exact List.mem_append_right _ (ih e r hr)
theorem goS_eq (g k:Nat) (m:Bs) (own:Own) (x:S) (xs:List S) (s:Rs):Tp.goS (g+1) k m own (x :: xs) s=match s.left with
  | 0=>.stop Tp.fuelW s
  | f+1=>(match Tp.go1 g k m own x { s with left:=f } with
   | .ok r s2=>(match r.2 with
    | some u=>.ok (r.1,some u) s2
    | none=>Tp.goS g k m r.1 xs s2)
   | .stop way s2=>.stop way s2
   | .gas=>.gas):=by
 rw[Tp.goS]
 unfold Tp.Ru.bind
 simp only [Tp.tick]
 cases s.left with
 | zero=>rfl
 | succ f =>
  simp only
  cases Tp.go1 g k m own x { s with left:=f } with
  | gas=>rfl
  | stop way s2=>rfl
  | ok r s2 =>
   simp only
   cases r.2 <;> rfl
theorem stmts_go {c:Cx}{g:Nat}(ok:CxOk c) (h1:∀ n,n<g->Go1C c n):GoC c g:=by
 intro k lo own names l v w s sb ob hss h hs hng
 obtain⟨cs,hr1,hr2⟩:=hss.rep
 obtain⟨va,vc,rfl⟩:=hr2.shape
 have hlen:=hr2.len
 obtain⟨res,hres⟩:∃ res,res=Tp.goS g k lo.m.name own l s:=⟨_,rfl⟩
 rw[<-hres]at hng ⊢
 have HH1:=zh h1
 have HOK:=zh ok
 have HSS:=zh hss
 have HN:=zh hng
 have HG0:=zh h
 have HS0:=zh hs
 have HF0:Hid (∃ gi,gi<=g/\res=Tp.goS gi k lo.m.name own (l.drop 0) s):=⟨g,Nat.le_refl _,hres⟩
 obtain⟨ln,hln⟩:∃ ln,ln=l.length:=⟨_,rfl⟩
 rw[<-hln]at hlen ⊢
 have HLN:=zh hln
 have hlen':(ln:Int)<=9223372036854775807:=by omega
 have HSS':Hid (∀ i,∀ hi:i<l.length,∃ b,va=some ⟨b,0,none⟩/\b<c.w0.heap.size/\StAt c l[i] b (i * 7)):=fun i hi=>hss.at i hi
 clear h1 ok hss hng h hs hres hr1 hr2 hln
 go_enter Tryz.func88,Tryz.ntmps88
 go_wp2_with fail
 go_loopg [7] ln (fun kk vi wr=>∃(i:Nat) (si:Rs) (ow:Own),i<=ln/\kk=ln - i/\vi=.int .i64 (i:Int)/\Hid (GS c wr si k)/\Hid (Kp c (oY ob) w wr)/\Hid (si.left<=s.left)/\Hid (Sc c wr sb ob lo ow names si.left)/\Hid (∃ gi,gi<=g/\res=Tp.goS gi k lo.m.name ow (l.drop i) si))
 case atStart=>exact⟨0,s,own,by omega,by omega,rfl,HG0,Kp.refl _ _ _,Nat.le_refl _,HS0,HF0⟩
 case round =>
  obtain⟨i,si,ow,hid,hkk,rfl,HG,HK,HL,HS,HF⟩:=hrel
  obtain⟨gi,hgi,hfl⟩:=HF.out
  cases gi with
  | zero=>exact absurd (by rw[hfl,Tp.goS];rfl) HN.out
  | succ g1 =>
   by_cases hlt:i<ln
   ·have hlt':(i:Int)<(ln:Int):=by omega
    have hia:i<l.length:=by have:=HLN.out;omega
    rw[List.drop_eq_getElem_cons hia,goS_eq]at hfl
    have ks:wr.cell? ⟨sb,0,none⟩=some (.pointer (some ⟨c.gb,0,none⟩)):=(za HS.out.blk).trans rfl
    have hsb:=zf HS.out.blk
    cases hlf:si.left with
    | zero =>
     rw[hlf]at hfl
     have HR:Hid (∀ e,thrE endT (Tp.fuelW:Int) e->GoP c k sb ob lo names w s res e wr):=fun e a=>by rw[hfl];exact⟨a,⟨k,HG.out⟩,HK.out⟩
     have HST:=zh (vf HG.out hlf)
     clear hfl HF hlf
     go_wp2_with fail
     refine HST.out.mono ?_
     rintro e w4 ⟨⟨older,rfl⟩,rfl⟩
     go_wp2_with fail
     exact⟨rfl,HR.out _ ⟨older,rfl⟩⟩
    | succ f =>
     rw[hlf]at hfl
     simp only at hfl
     have HST:=zh (rstep_ok HG.out hlf)
     have hg4:=HG.out.tick HOK.out hlf
     have hs4:Sc c (wr.setCell ⟨c.gb,1,none⟩ (.int .i64 (f:Int))) sb ob lo ow names (f+1):=HS.out.kp (Kp.reg HG.out (by omega)) HOK.out.Vlt (by omega)
     have HK4:Hid (Kp c (oY ob) w (wr.setCell ⟨c.gb,1,none⟩ (.int .i64 (f:Int)))):=HK.out.trans (Kp.reg HG.out (by omega)).wide
     have hn1:Tp.go1 g1 k lo.m.name ow l[i] { si with left:=f }≠.gas:=fun e=>HN.out (by rw[hfl,e])
     obtain⟨b,rfl,hb0,hsa⟩:=HSS'.out i hia
     have HC:=zh (HH1.out g1 (by omega) k lo ow names l[i] b (i * 7) _ { si with left:=f } sb ob hsa (ws_mem HSS.out.ws _ (List.getElem_mem hia)) (fun r hr=>HSS.out.fit r (rs_mem (List.getElem_mem hia) r hr)) hg4 hs4 hn1)
     have HLF:Hid (f<=s.left):=by show f<=s.left;have:=HL.out;omega
     have HFL:=zh hfl
     have HN1:=zh hn1
     clear hfl HF hlf hn1 hg4 hs4 hsa hb0
     go_wp2_with fail
     refine HST.out.mono ?_
     rintro e w4 ⟨rfl,hw4⟩
     rw[<-hw4]at HC HK4
     clear hw4
     have hfl:=HFL.out
     cases hg1:Tp.go1 g1 k lo.m.name ow l[i] { si with left:=f } with
     | gas=>exact absurd hg1 HN1.out
     | stop way s3 =>
      rw[hg1]at HC hfl
      have HR:Hid (∀ e W,GoP c k sb ob lo names w4 { si with left:=f } (.stop way s3) e W->GoP c k sb ob lo names w s res e W):=fun e W a=>by rw[hfl];exact a.up HK4.out HLF.out
      clear hfl hg1 HFL HN1
      go_wp2_with fail
      refine HC.out.mono ?_
      intro e w5 hq
      have HQ:=zh (HR.out e w5 hq)
      obtain⟨⟨older,rfl⟩,_⟩:=hq
      go_wp2_with fail
      exact⟨rfl,HQ.out⟩
     | ok r1 s3 =>
      obtain⟨ow2,u⟩:=r1
      rw[hg1]at HC hfl
      simp only at hfl
      cases u with
      | some u =>
       simp only at hfl
       have HR:Hid (∀ e W,GoP c k sb ob lo names w4 { si with left:=f } (.ok (ow2,some u) s3) e W->GoP c k sb ob lo names w s res e W):=fun e W a=>by rw[hfl];exact a.up HK4.out HLF.out
       clear hfl hg1 HFL HN1
       go_wp2_with fail
       refine HC.out.mono ?_
       intro e w5 hq
       have HQ:=zh (HR.out e w5 hq)
       obtain⟨⟨older,rfl⟩,_⟩:=hq
       go_wp2_with fail
       exact⟨rfl,HQ.out⟩
      | none =>
       simp only at hfl
       have HF4:Hid (∃ gi,gi<=g/\res=Tp.goS gi k lo.m.name ow2 (l.drop (i+1)) s3):=⟨g1,by omega,hfl⟩
       clear hfl hg1 HFL HN1
       go_wp2_with fail
       refine HC.out.mono ?_
       rintro e w5 ⟨rfl,hg5,hk5,hl5,hs5⟩
       have HG5:=zh hg5
       have HK5:=zh (HK4.out.trans hk5)
       have HL5:Hid (s3.left<=s.left):=Nat.le_trans hl5 HLF.out
       have HS5:=zh hs5
       clear hg5 hk5 hl5 hs5
       go_wp2_with fail
       go_roundg (ln - (i+1))
       case measure=>omega
       case rel=>exact⟨i+1,s3,ow2,by omega,rfl,by go_num,HG5,HK5,HL5,HS5,HF4⟩
   ·have hlt':¬(i:Int)<(ln:Int):=by omega
    rw[List.drop_of_length_le (by have:=HLN.out;omega)]at hfl
    have hfl2:res=.ok (ow,none) si:=by rw[hfl,Tp.goS];rfl
    have HR:Hid (GoP c k sb ob lo names w s res (.returned (.tuple #[])) wr):=by
     show GoP _ _ _ _ _ _ _ _ _ _ _
     rw[hfl2]
     exact⟨rfl,HG.out,HK.out,HL.out,HS.out⟩
    clear hfl hfl2 HF
    go_wp2_with fail
    exact bodyPost_end (results_none rfl _ _ _) rfl HR.out
structure RunAll (c:Cx) (g:Nat):Prop where
 ev:EvC c g
 cl:CallC c g
 g1:Go1C c g
 go:GoC c g
theorem run_all {c:Cx}(ok:CxOk c):∀ g,RunAll c g:=by
 intro g
 induction g using Nat.strongRecOn with
 | _ g ih =>
  have hgo:GoC c g:=stmts_go ok (fun n hn=>(ih n hn).g1)
  cases g with
  | zero =>
   refine⟨ev_zero c,?_,?_,hgo⟩
   ·intro k lo nm p vs w s aa ac _ _ _ _ _ _ hn
    exact absurd (by rw[Tp.callP];rfl) hn
   ·intro k lo own names x b o w s sb ob _ _ _ _ _ hn
    exact absurd (by rw[Tp.go1];rfl) hn
  | succ g =>
   exact⟨ev_all ok (fun n hn=>(ih n hn).ev) (ih g (by omega)).cl,call_all ok (body_all ok (ih g (by omega)).go),rstmt_all ok (fun n hn=>(ih n hn).ev) (fun n hn=>(ih n hn).go),hgo⟩
theorem run_body {c:Cx}(ok:CxOk c) (g:Nat):BodyC c g:=body_all ok (run_all ok g).go
end Go.Proofs.YtibncofnnlbmcaaGreatDoor
namespace Go.Proofs.YtibncofnnlbmcaaGreatDoor
open Go.RowKit Go.Maps
open Tp (Bs X S G Pr Pt Rs Rr Own)
theorem ta_way (n:Int) (w:World):(Instr.typeAssert (.iface 173 (.int .i64 n)) 20 173 true).run Tryz.prog w=.ok (.tuple #[.int .i64 n,.bool true]) w:=by kernel_rfl
theorem way_nil (w:World):Calls Tryz.prog 86 #[.nilIface] w fun e w'=>e=.returned (.int .i64 1)/\w'=w:=by
 go_enter Tryz.func86,Tryz.ntmps86
 go_wp2_with fail
 go_ret
 exact⟨rfl,rfl⟩
theorem way_end (n:Int) (w:World):Calls Tryz.prog 86 #[.iface endT (.int .i64 n)] w fun e w'=>e=.returned (.int .i64 n)/\w'=w:=by
 unfold endT
 have hta:=ta_way n
 go_enter Tryz.func86,Tryz.ntmps86
 go_wp2_with fail
 go_ret
 exact⟨rfl,rfl⟩
def gops:Array Oper:=#[{ dst:=some 2,op:=Op.call { callee:=Callee.builtin Builtin.recover,args:=#[],argTypes:=#[] },type:=20,pos:="going.go:19",after:=#[],guard:=none },
 { dst:=some 3,op:=Op.call { callee:=Callee.value (Operand.func 86),args:=#[Operand.tmp 2],argTypes:=#[20] },type:=3,pos:="going.go:19",after:=#[{ on:=0,ground:=Ground.data },{ on:=0,ground:=Ground.chain }],guard:=none },
 { dst:=some 4,op:=Op.load 95 (Operand.tmp 0),type:=95,pos:="going.go:19",after:=#[],guard:=none },
 { dst:=some 5,op:=Op.nilCheck (Operand.tmp 4),type:=0,pos:="going.go:19",after:=#[{ on:=2,ground:=Ground.data }],guard:=none },
 { dst:=some 6,op:=Op.fieldAddr 152 (Operand.tmp 5) 3,type:=0,pos:="going.go:19",after:=#[{ on:=3,ground:=Ground.data }],guard:=none },
 { dst:=some 7,op:=Op.load 29 (Operand.tmp 6),type:=29,pos:="going.go:19",after:=#[{ on:=4,ground:=Ground.data }],guard:=none },
 { dst:=some 8,op:=Op.build 43 #[(0,Operand.tmp 3),(1,Operand.tmp 7)],type:=43,pos:="going.go:19",after:=#[{ on:=1,ground:=Ground.data },{ on:=5,ground:=Ground.data }],guard:=none },
 { dst:=none,op:=Op.store 43 (Operand.tmp 1) (Operand.tmp 8),type:=0,pos:="going.go:19",after:=#[{ on:=6,ground:=Ground.data },{ on:=1,ground:=Ground.chain },{ on:=0,ground:=Ground.phase },{ on:=1,ground:=Ground.phase },{ on:=2,ground:=Ground.phase },{ on:=3,ground:=Ground.phase },{ on:=4,ground:=Ground.phase },{ on:=5,ground:=Ground.phase },{ on:=6,ground:=Ground.phase }],guard:=none }]
set_option linter.unusedSimpArgs false in
theorem glate_ord {gx eb gb on oc:Nat}{oa:Option Addr}{rv:Value}{n:Int}{c₀ c1:Frame}{cs:List Frame}{wd:World}{Q:Exit->Act->List Frame->World->Prop}(hrec:recoverD (c₀ :: cs)=some (rv,c1 :: cs)\/recoverD (c₀ :: cs)=none/\rv=.nilIface/\c1=c₀)
  (hway:∀ w,Calls Tryz.prog 86 #[rv] w fun e w'=>e=.returned (.int .i64 n)/\w'=w) (k0:wd.cell? ⟨gx,0,none⟩=some (.pointer (some ⟨gb,0,none⟩))) (k3:wd.cell? ⟨gb,3,none⟩=some (.slice oa on oc)) {x0 x1:Value} (e0:wd.cell? ⟨eb,0,none⟩=some x0) (e1:wd.cell? ⟨eb,1,none⟩=some x1) (z0:wd.frozen? ⟨eb,0,none⟩=false) (z1:wd.frozen? ⟨eb,1,none⟩=false)
  (hQ:Q .normal { tmps:=#[.pointer (some ⟨gx,0,none⟩),.pointer (some ⟨eb,0,none⟩),rv,.int .i64 n,.pointer (some ⟨gb,0,none⟩),.pointer (some ⟨gb,0,none⟩),.pointer (some ⟨gb,3,none⟩),.slice oa on oc,.agg #[.int .i64 n,.slice oa on oc]],defers:=[] } (c1 :: cs) ((wd.setCell ⟨eb,0,none⟩ (.int .i64 n)).setCell ⟨eb,1,none⟩ (.slice oa on oc))) :
  wpOrd Tryz.prog .any gops Q 8 #[false,false,false,false,false,false,false,false] { tmps:=#[.pointer (some ⟨gx,0,none⟩),.pointer (some ⟨eb,0,none⟩),undef,undef,undef,undef,undef,undef,undef],defers:=[] } (c₀ :: cs) wd:=by
 have hgl:=zg k0
 have hgbl:=zg k3
 have hel:=zg e0
 have s_e:wpOrd Tryz.prog .any gops Q 0 #[true,true,true,true,true,true,true,true] { tmps:=#[.pointer (some ⟨gx,0,none⟩),.pointer (some ⟨eb,0,none⟩),rv,.int .i64 n,.pointer (some ⟨gb,0,none⟩),.pointer (some ⟨gb,0,none⟩),.pointer (some ⟨gb,3,none⟩),.slice oa on oc,.agg #[.int .i64 n,.slice oa on oc]],defers:=[] } (c1 :: cs) ((wd.setCell ⟨eb,0,none⟩ (.int .i64 n)).setCell ⟨eb,1,none⟩ (.slice oa on oc)):=by
  exact⟨by kernel_rfl,hQ⟩
 have s_7:wpOrd Tryz.prog .any gops Q 1 #[true,true,true,true,true,true,true,false] { tmps:=#[.pointer (some ⟨gx,0,none⟩),.pointer (some ⟨eb,0,none⟩),rv,.int .i64 n,.pointer (some ⟨gb,0,none⟩),.pointer (some ⟨gb,0,none⟩),.pointer (some ⟨gb,3,none⟩),.slice oa on oc,.agg #[.int .i64 n,.slice oa on oc]],defers:=[] } (c1 :: cs) wd:=by
  rw[wpOrd,show Region.ready .any gops #[true,true,true,true,true,true,true,false]=[7] from by kernel_rfl]
  refine⟨fun h=>(by cases h),fun i hi=>?_⟩
  rw[List.mem_singleton]at hi
  subst hi
  simp[wpOp1,gops,go_sem,Region.wanted,k0,k3,e0,e1,z0,z1]
  exact s_e
 have s_2_4:wpOrd Tryz.prog .any gops Q 2 #[true,true,true,true,true,true,false,false] { tmps:=#[.pointer (some ⟨gx,0,none⟩),.pointer (some ⟨eb,0,none⟩),rv,.int .i64 n,.pointer (some ⟨gb,0,none⟩),.pointer (some ⟨gb,0,none⟩),.pointer (some ⟨gb,3,none⟩),.slice oa on oc,undef],defers:=[] } (c1 :: cs) wd:=by
  rw[wpOrd,show Region.ready .any gops #[true,true,true,true,true,true,false,false]=[6] from by kernel_rfl]
  refine⟨fun h=>(by cases h),fun i hi=>?_⟩
  rw[List.mem_singleton]at hi
  subst hi
  simp[wpOp1,gops,go_sem,Region.wanted,k0,k3,e0,e1,z0,z1]
  exact s_7
 have s_2_3:wpOrd Tryz.prog .any gops Q 3 #[true,true,true,true,true,false,false,false] { tmps:=#[.pointer (some ⟨gx,0,none⟩),.pointer (some ⟨eb,0,none⟩),rv,.int .i64 n,.pointer (some ⟨gb,0,none⟩),.pointer (some ⟨gb,0,none⟩),.pointer (some ⟨gb,3,none⟩),undef,undef],defers:=[] } (c1 :: cs) wd:=by
  rw[wpOrd,show Region.ready .any gops #[true,true,true,true,true,false,false,false]=[5] from by kernel_rfl]
  refine⟨fun h=>(by cases h),fun i hi=>?_⟩
  rw[List.mem_singleton]at hi
  subst hi
  simp[wpOp1,gops,go_sem,Region.wanted,k0,k3,e0,e1,z0,z1]
  exact s_2_4
 have s_1_4:wpOrd Tryz.prog .any gops Q 3 #[true,false,true,true,true,true,false,false] { tmps:=#[.pointer (some ⟨gx,0,none⟩),.pointer (some ⟨eb,0,none⟩),rv,undef,.pointer (some ⟨gb,0,none⟩),.pointer (some ⟨gb,0,none⟩),.pointer (some ⟨gb,3,none⟩),.slice oa on oc,undef],defers:=[] } (c1 :: cs) wd:=by
  rw[wpOrd,show Region.ready .any gops #[true,false,true,true,true,true,false,false]=[1] from by kernel_rfl]
  refine⟨fun h=>(by cases h),fun i hi=>?_⟩
  rw[List.mem_singleton]at hi
  subst hi
  simp[wpOp1,gops,go_sem,Region.wanted]
  refine(hway wd).mono ?_
  rintro e w' ⟨rfl,rfl⟩
  exact s_2_4
 have s_2_2:wpOrd Tryz.prog .any gops Q 4 #[true,true,true,true,false,false,false,false] { tmps:=#[.pointer (some ⟨gx,0,none⟩),.pointer (some ⟨eb,0,none⟩),rv,.int .i64 n,.pointer (some ⟨gb,0,none⟩),.pointer (some ⟨gb,0,none⟩),undef,undef,undef],defers:=[] } (c1 :: cs) wd:=by
  rw[wpOrd,show Region.ready .any gops #[true,true,true,true,false,false,false,false]=[4] from by kernel_rfl]
  refine⟨fun h=>(by cases h),fun i hi=>?_⟩
  rw[List.mem_singleton]at hi
  subst hi
  simp[wpOp1,gops,go_sem,Region.wanted,k0,k3,e0,e1,z0,z1]
  exact s_2_3
 have s_1_3:wpOrd Tryz.prog .any gops Q 4 #[true,false,true,true,true,false,false,false] { tmps:=#[.pointer (some ⟨gx,0,none⟩),.pointer (some ⟨eb,0,none⟩),rv,undef,.pointer (some ⟨gb,0,none⟩),.pointer (some ⟨gb,0,none⟩),.pointer (some ⟨gb,3,none⟩),undef,undef],defers:=[] } (c1 :: cs) wd:=by
  rw[wpOrd,show Region.ready .any gops #[true,false,true,true,true,false,false,false]=[1,5] from by kernel_rfl]
  refine⟨fun h=>(by cases h),fun i hi=>?_⟩
  rcases List.mem_cons.1 hi with hi|hi
  ·subst hi
   simp[wpOp1,gops,go_sem,Region.wanted]
   refine(hway wd).mono ?_
   rintro e w' ⟨rfl,rfl⟩
   exact s_2_3
  ·rw[List.mem_singleton]at hi
   subst hi
   simp[wpOp1,gops,go_sem,Region.wanted,k0,k3,e0,e1,z0,z1]
   exact s_1_4
 have s_0_4:wpOrd Tryz.prog .any gops Q 4 #[false,false,true,true,true,true,false,false] { tmps:=#[.pointer (some ⟨gx,0,none⟩),.pointer (some ⟨eb,0,none⟩),undef,undef,.pointer (some ⟨gb,0,none⟩),.pointer (some ⟨gb,0,none⟩),.pointer (some ⟨gb,3,none⟩),.slice oa on oc,undef],defers:=[] } (c₀ :: cs) wd:=by
  rw[wpOrd,show Region.ready .any gops #[false,false,true,true,true,true,false,false]=[0] from by kernel_rfl]
  refine⟨fun h=>(by cases h),fun i hi=>?_⟩
  rw[List.mem_singleton]at hi
  subst hi
  rcases hrec with hr|⟨hr,hv,hc⟩
  ·simp[wpOp1,gops,go_sem,Region.wanted,hr]
   exact s_1_4
  ·subst hv hc
   simp[wpOp1,gops,go_sem,Region.wanted,hr]
   exact s_1_4
 have s_2_1:wpOrd Tryz.prog .any gops Q 5 #[true,true,true,false,false,false,false,false] { tmps:=#[.pointer (some ⟨gx,0,none⟩),.pointer (some ⟨eb,0,none⟩),rv,.int .i64 n,.pointer (some ⟨gb,0,none⟩),undef,undef,undef,undef],defers:=[] } (c1 :: cs) wd:=by
  rw[wpOrd,show Region.ready .any gops #[true,true,true,false,false,false,false,false]=[3] from by kernel_rfl]
  refine⟨fun h=>(by cases h),fun i hi=>?_⟩
  rw[List.mem_singleton]at hi
  subst hi
  simp[wpOp1,gops,go_sem,Region.wanted,k0,k3,e0,e1,z0,z1]
  exact s_2_2
 have s_1_2:wpOrd Tryz.prog .any gops Q 5 #[true,false,true,true,false,false,false,false] { tmps:=#[.pointer (some ⟨gx,0,none⟩),.pointer (some ⟨eb,0,none⟩),rv,undef,.pointer (some ⟨gb,0,none⟩),.pointer (some ⟨gb,0,none⟩),undef,undef,undef],defers:=[] } (c1 :: cs) wd:=by
  rw[wpOrd,show Region.ready .any gops #[true,false,true,true,false,false,false,false]=[1,4] from by kernel_rfl]
  refine⟨fun h=>(by cases h),fun i hi=>?_⟩
  rcases List.mem_cons.1 hi with hi|hi
  ·subst hi
   simp[wpOp1,gops,go_sem,Region.wanted]
   refine(hway wd).mono ?_
   rintro e w' ⟨rfl,rfl⟩
   exact s_2_2
  ·rw[List.mem_singleton]at hi
   subst hi
   simp[wpOp1,gops,go_sem,Region.wanted,k0,k3,e0,e1,z0,z1]
   exact s_1_3
 have s_0_3:wpOrd Tryz.prog .any gops Q 5 #[false,false,true,true,true,false,false,false] { tmps:=#[.pointer (some ⟨gx,0,none⟩),.pointer (some ⟨eb,0,none⟩),undef,undef,.pointer (some ⟨gb,0,none⟩),.pointer (some ⟨gb,0,none⟩),.pointer (some ⟨gb,3,none⟩),undef,undef],defers:=[] } (c₀ :: cs) wd:=by
  rw[wpOrd,show Region.ready .any gops #[false,false,true,true,true,false,false,false]=[0,5] from by kernel_rfl]
  refine⟨fun h=>(by cases h),fun i hi=>?_⟩
  rcases List.mem_cons.1 hi with hi|hi
  ·subst hi
   rcases hrec with hr|⟨hr,hv,hc⟩
   ·simp[wpOp1,gops,go_sem,Region.wanted,hr]
    exact s_1_3
   ·subst hv hc
    simp[wpOp1,gops,go_sem,Region.wanted,hr]
    exact s_1_3
  ·rw[List.mem_singleton]at hi
   subst hi
   simp[wpOp1,gops,go_sem,Region.wanted,k0,k3,e0,e1,z0,z1]
   exact s_0_4
 have s_2_0:wpOrd Tryz.prog .any gops Q 6 #[true,true,false,false,false,false,false,false] { tmps:=#[.pointer (some ⟨gx,0,none⟩),.pointer (some ⟨eb,0,none⟩),rv,.int .i64 n,undef,undef,undef,undef,undef],defers:=[] } (c1 :: cs) wd:=by
  rw[wpOrd,show Region.ready .any gops #[true,true,false,false,false,false,false,false]=[2] from by kernel_rfl]
  refine⟨fun h=>(by cases h),fun i hi=>?_⟩
  rw[List.mem_singleton]at hi
  subst hi
  simp[wpOp1,gops,go_sem,Region.wanted,k0,k3,e0,e1,z0,z1]
  exact s_2_1
 have s_1_1:wpOrd Tryz.prog .any gops Q 6 #[true,false,true,false,false,false,false,false] { tmps:=#[.pointer (some ⟨gx,0,none⟩),.pointer (some ⟨eb,0,none⟩),rv,undef,.pointer (some ⟨gb,0,none⟩),undef,undef,undef,undef],defers:=[] } (c1 :: cs) wd:=by
  rw[wpOrd,show Region.ready .any gops #[true,false,true,false,false,false,false,false]=[1,3] from by kernel_rfl]
  refine⟨fun h=>(by cases h),fun i hi=>?_⟩
  rcases List.mem_cons.1 hi with hi|hi
  ·subst hi
   simp[wpOp1,gops,go_sem,Region.wanted]
   refine(hway wd).mono ?_
   rintro e w' ⟨rfl,rfl⟩
   exact s_2_1
  ·rw[List.mem_singleton]at hi
   subst hi
   simp[wpOp1,gops,go_sem,Region.wanted,k0,k3,e0,e1,z0,z1]
   exact s_1_2
 have s_0_2:wpOrd Tryz.prog .any gops Q 6 #[false,false,true,true,false,false,false,false] { tmps:=#[.pointer (some ⟨gx,0,none⟩),.pointer (some ⟨eb,0,none⟩),undef,undef,.pointer (some ⟨gb,0,none⟩),.pointer (some ⟨gb,0,none⟩),undef,undef,undef],defers:=[] } (c₀ :: cs) wd:=by
  rw[wpOrd,show Region.ready .any gops #[false,false,true,true,false,false,false,false]=[0,4] from by kernel_rfl]
  refine⟨fun h=>(by cases h),fun i hi=>?_⟩
  rcases List.mem_cons.1 hi with hi|hi
  ·subst hi
   rcases hrec with hr|⟨hr,hv,hc⟩
   ·simp[wpOp1,gops,go_sem,Region.wanted,hr]
    exact s_1_2
   ·subst hv hc
    simp[wpOp1,gops,go_sem,Region.wanted,hr]
    exact s_1_2
  ·rw[List.mem_singleton]at hi
   subst hi
   simp[wpOp1,gops,go_sem,Region.wanted,k0,k3,e0,e1,z0,z1]
   exact s_0_3
 have s_1_0:wpOrd Tryz.prog .any gops Q 7 #[true,false,false,false,false,false,false,false] { tmps:=#[.pointer (some ⟨gx,0,none⟩),.pointer (some ⟨eb,0,none⟩),rv,undef,undef,undef,undef,undef,undef],defers:=[] } (c1 :: cs) wd:=by
  rw[wpOrd,show Region.ready .any gops #[true,false,false,false,false,false,false,false]=[1,2] from by kernel_rfl]
  refine⟨fun h=>(by cases h),fun i hi=>?_⟩
  rcases List.mem_cons.1 hi with hi|hi
  ·subst hi
   simp[wpOp1,gops,go_sem,Region.wanted]
   refine(hway wd).mono ?_
   rintro e w' ⟨rfl,rfl⟩
   exact s_2_0
  ·rw[List.mem_singleton]at hi
   subst hi
   simp[wpOp1,gops,go_sem,Region.wanted,k0,k3,e0,e1,z0,z1]
   exact s_1_1
 have s_0_1:wpOrd Tryz.prog .any gops Q 7 #[false,false,true,false,false,false,false,false] { tmps:=#[.pointer (some ⟨gx,0,none⟩),.pointer (some ⟨eb,0,none⟩),undef,undef,.pointer (some ⟨gb,0,none⟩),undef,undef,undef,undef],defers:=[] } (c₀ :: cs) wd:=by
  rw[wpOrd,show Region.ready .any gops #[false,false,true,false,false,false,false,false]=[0,3] from by kernel_rfl]
  refine⟨fun h=>(by cases h),fun i hi=>?_⟩
  rcases List.mem_cons.1 hi with hi|hi
  ·subst hi
   rcases hrec with hr|⟨hr,hv,hc⟩
   ·simp[wpOp1,gops,go_sem,Region.wanted,hr]
    exact s_1_1
   ·subst hv hc
    simp[wpOp1,gops,go_sem,Region.wanted,hr]
    exact s_1_1
  ·rw[List.mem_singleton]at hi
   subst hi
   simp[wpOp1,gops,go_sem,Region.wanted,k0,k3,e0,e1,z0,z1]
   exact s_0_2
 have s_0_0:wpOrd Tryz.prog .any gops Q 8 #[false,false,false,false,false,false,false,false] { tmps:=#[.pointer (some ⟨gx,0,none⟩),.pointer (some ⟨eb,0,none⟩),undef,undef,undef,undef,undef,undef,undef],defers:=[] } (c₀ :: cs) wd:=by
  rw[wpOrd,show Region.ready .any gops #[false,false,false,false,false,false,false,false]=[0,2] from by kernel_rfl]
  refine⟨fun h=>(by cases h),fun i hi=>?_⟩
  rcases List.mem_cons.1 hi with hi|hi
  ·subst hi
   rcases hrec with hr|⟨hr,hv,hc⟩
   ·simp[wpOp1,gops,go_sem,Region.wanted,hr]
    exact s_1_0
   ·subst hv hc
    simp[wpOp1,gops,go_sem,Region.wanted,hr]
    exact s_1_0
  ·rw[List.mem_singleton]at hi
   subst hi
   simp[wpOp1,gops,go_sem,Region.wanted,k0,k3,e0,e1,z0,z1]
   exact s_0_1
 exact s_0_0
end Go.Proofs.YtibncofnnlbmcaaGreatDoor
namespace Go.Proofs.YtibncofnnlbmcaaGreatDoor
open Go.RowKit Go.Maps
open Tp (Bs X S G Pr Pt Rs Rr Own)
theorem glate {gx eb gb on oc:Nat}{oa:Option Addr}{rv:Value}{n:Int}{u u1:FrameMode}{w:World}(hrec:(∃ older,u=.panicking ({ v:=rv,recovered:=false } :: older)/\u1=.panicking ({ v:=rv,recovered:=true } :: older))\/u=.returning/\rv=.nilIface/\u1=.returning)
  (hway:∀ w,Calls Tryz.prog 86 #[rv] w fun e w'=>e=.returned (.int .i64 n)/\w'=w) (k0:w.cell? ⟨gx,0,none⟩=some (.pointer (some ⟨gb,0,none⟩))) (k3:w.cell? ⟨gb,3,none⟩=some (.slice oa on oc)) {x0 x1:Value} (e0:w.cell? ⟨eb,0,none⟩=some x0) (e1:w.cell? ⟨eb,1,none⟩=some x1) (z0:w.frozen? ⟨eb,0,none⟩=false) (z1:w.frozen? ⟨eb,1,none⟩=false) :
  CallsD Tryz.prog 85 #[.pointer (some ⟨gx,0,none⟩),.pointer (some ⟨eb,0,none⟩)] u w fun e u' w'=>e=.returned (.tuple #[])/\u'=u1/\w'=(w.drew.setCell ⟨eb,0,none⟩ (.int .i64 n)).setCell ⟨eb,1,none⟩ (.slice oa on oc):=by
 refine callsD_of_wpS Tryz.func85 rfl fun c₀ cs hu=>?_
 refine jN (by kernel_rfl) ?_
 have hr:recoverD (c₀ :: cs)=some (rv,{ c₀ with mode:=u1 } :: cs)\/recoverD (c₀ :: cs)=none/\rv=.nilIface/\({ c₀ with mode:=u1 }:Frame)=c₀:=by
  rcases hrec with⟨older,h1,h2⟩|⟨h1,h2,h3⟩
  ·refine Or.inl ?_
   simp[recoverD,hu,h1,h2]
  ·refine Or.inr ⟨?_,h2,?_⟩
   ·simp[recoverD,hu,h1]
   ·rw[h3,<-h1,<-hu]
 exact glate_ord (wd:=w.drew) hr hway k0 k3 e0 e1 z0 z1 ⟨rfl,u1,rfl,_,results_none rfl _ _ _,rfl,rfl,rfl⟩
def goesW (w:World) (tv:Option Nat) (fuel:Int):World:=((w.alloc (.cells #[.int .i64 0,.slice none 0 0] 43)).alloc (.cells #[.map tv,.int .i64 fuel,.int .i64 0,.slice none 0 0] 152)).alloc (.cells #[.pointer (some ⟨w.heap.size+1,0,none⟩)] 95)
def GoHeld (w w1 w2:World):Prop:=w2.heap[w.heap.size]?=w1.heap[w.heap.size]?/\w2.heap[w.heap.size+2]?=w1.heap[w.heap.size+2]?/\∃ oa on oc,w2.cell? ⟨w.heap.size+1,3,none⟩=some (.slice oa on oc)
def GoesP (w:World) (A:Int->World->Prop) (e:Ending) (w':World):Prop:=∃ w2 way oa on oc,A way w2/\w2.cell? ⟨w.heap.size+1,3,none⟩=some (.slice oa on oc)/\e=.returned (.agg #[.int .i64 way,.slice oa on oc])/\Ext w.heap.size w2 w'
theorem vS {w:World}{wb:Nat}{tv:Option Nat}{fuel:Int}{f:FuncId}{caps:Array Value}{A:Int->World->Prop}(hcf:∀(args:Array Value) (w:World),(callFunc f args).run Tryz.prog w=.ok (.enter f args) w) (hw:w.cell? ⟨wb,1,none⟩=some (.map tv))
  (hdo:Calls Tryz.prog f (#[.pointer (some ⟨w.heap.size+1,0,none⟩)]++caps) (goesW w tv fuel) fun e w2=>GoHeld w (goesW w tv fuel) w2/\((e=.returned (.tuple #[])/\A 1 w2)\/∃ way:Int,thrE endT way e/\A way w2)) :
  Calls Tryz.prog 41 #[.pointer (some ⟨wb,0,none⟩),.int .i64 fuel,.func (.func f) #[] caps] w (GoesP w A):=by
 have hmf:=zm
 have hwl:=zg hw
 obtain⟨w1,hw1⟩:∃ w1,w1=goesW w tv fuel:=⟨_,rfl⟩
 have hb1:w1.heap[w.heap.size]?=some (.cells #[.int .i64 0,.slice none 0 0] 43 (0,0)):=by
  rw[hw1];unfold goesW
  exact((Below.heap_alloc _ _ _ (by simp;omega)).trans (Below.heap_alloc _ _ _ (by simp))).trans (zo _ _)
 have hb3:w1.heap[w.heap.size+2]?=some (.cells #[.pointer (some ⟨w.heap.size+1,0,none⟩)] 95 (0,0)):=by
  rw[hw1];unfold goesW
  have:=zo ((w.alloc (.cells #[.int .i64 0,.slice none 0 0] 43)).alloc (.cells #[.map tv,.int .i64 fuel,.int .i64 0,.slice none 0 0] 152)) (.cells #[.pointer (some ⟨w.heap.size+1,0,none⟩)] 95)
  simpa using this
 rw[<-hw1]at hdo
 have HDO:=zh hdo
 have k2:w1.cell? ⟨w.heap.size+2,0,none⟩=some (.pointer (some ⟨w.heap.size+1,0,none⟩)):=(za hb3).trans rfl
 have hs2:w.heap.size+2<w1.heap.size:=zf hb3
 have HB1:=zh hb1
 have HB3:=zh hb3
 have HEND:Hid (∀(w2:World) (way:Int) (rv:Value) (u:FrameMode) (u1:FrameMode),settle u1=.returning->((∃ older,u=.panicking ({ v:=rv,recovered:=false } :: older)/\u1=.panicking ({ v:=rv,recovered:=true } :: older))\/u=.returning/\rv=.nilIface/\u1=.returning)->(∀ w,Calls Tryz.prog 86 #[rv] w fun e w'=>e=.returned (.int .i64 way)/\w'=w)->GoHeld w w1 w2->A way w2->∀ W,Ext w.heap.size w2 W->W.heap[w.heap.size]?=w1.heap[w.heap.size]?->W.heap[w.heap.size+1]?=w2.heap[w.heap.size+1]? ->
   CallsD Tryz.prog 85 #[.pointer (some ⟨w.heap.size+2,0,none⟩),.pointer (some ⟨w.heap.size,0,none⟩)] u W fun e u' w''=>(∃ v,e=.returned v)/\settle u'=.returning/\∃ oa on oc,w''.cell? ⟨w.heap.size,0,none⟩=some (.int .i64 way)/\w''.cell? ⟨w.heap.size,1,none⟩=some (.slice oa on oc)/\GoesP w A (.returned (.agg #[.int .i64 way,.slice oa on oc])) w''):=by
  intro w2 way rv u u1 hst hrec hway hh hA W hx hWe hWg
  obtain⟨g1,g2,oa,on,oc,g3⟩:=hh
  have heb:=hWe.trans HB1.out
  have hgx:W.heap[w.heap.size+2]?=some (.cells #[.pointer (some ⟨w.heap.size+1,0,none⟩)] 95 (0,0)):=by
   rw[hx.block _ (by have:=zf (g2.trans HB3.out);omega) (by omega),g2]
   exact HB3.out
  have hg3:W.cell? ⟨w.heap.size+1,3,none⟩=some (.slice oa on oc):=(World.cell?_of_block (w:=w2) hWg).trans g3
  refine(glate hrec hway ((za hgx).trans rfl) hg3 ((za heb).trans rfl) ((za heb).trans rfl) (zi heb) (zi heb)).mono ?_
  rintro e u' w'' ⟨rfl,rfl,rfl⟩
  have hfin:=zu 1 (.slice oa on oc) (zu 0 (.int .i64 way) (show W.drew.heap[w.heap.size]?=_ from heb))
  refine⟨⟨_,rfl⟩,hst,oa,on,oc,(za hfin).trans rfl,(za hfin).trans rfl,w2,way,oa,on,oc,hA,g3,rfl,?_⟩
  have hd:Ext w.heap.size W W.drew:=⟨rfl,rfl,rfl,Nat.le_refl _,fun _ _ _=>rfl⟩
  exact((hx.trans hd).set 0 _).set 1 _
 clear hdo hb1 hb3
 unfold goesW at hw1
 go_enter_defers Tryz.func41,Tryz.ntmps41
 go_upto_region 3 with fail
 rw[<-hw1]
 clear hw1
 go_wp2_with fail
 refine HDO.out.mono ?_
 rintro e w2 ⟨hh,hq⟩
 rcases hq with⟨rfl,hA⟩|⟨way,⟨older,rfl⟩,hA⟩
 ·have hE:=hh.1.trans HB1.out
  have e0:w2.cell? ⟨w.heap.size,0,none⟩=some (.int .i64 0):=(za hE).trans rfl
  have e1:w2.cell? ⟨w.heap.size,1,none⟩=some (.slice none 0 0):=(za hE).trans rfl
  have z0:∀ j,w2.frozen? ⟨w.heap.size,j,none⟩=false:=fun j=>zi hE
  have hel:=zf hE
  have hset:=zu 1 (.slice none 0 0) (zu 0 (.int .i64 0) hE)
  have HL:=zh (HEND.out w2 1 .nilIface .returning .returning rfl (Or.inr ⟨rfl,rfl,rfl⟩) way_nil hh hA ((w2.setCell ⟨w.heap.size,0,none⟩ (.int .i64 0)).setCell ⟨w.heap.size,1,none⟩ (.slice none 0 0)) (((Ext.refl _ _).set 0 _).set 1 _) (hset.trans HB1.out.symm) ((zx _ (by omega)).trans (zx _ (by omega))))
  clear hh hA hE hset HEND HDO k2
  go_wp2_with fail
  refine leaves_cons (f:=85) (args:=#[.pointer (some ⟨w.heap.size+2,0,none⟩),.pointer (some ⟨w.heap.size,0,none⟩)]) (by simp) (by simp[go_sem]) ?_
  refine HL.out.mono ?_
  rintro e u' w'' ⟨⟨v,rfl⟩,hst,oa,on,oc,q0,q1,hfin⟩
  simp[Leaves,hst,results,Tryz.results41,go_sem,q0,q1]
  exact hfin
 ·have HL:=zh (HEND.out w2 way (.iface endT (.int .i64 way)) (.panicking ({ v:=.iface endT (.int .i64 way),recovered:=false } :: older.1)) (.panicking ({ v:=.iface endT (.int .i64 way),recovered:=true } :: older.1)) (by simp[settle,jF older]) (Or.inl ⟨older.1,rfl,rfl⟩) (way_end way) hh hA w2 (Ext.refl _ _) hh.1 rfl)
  clear hh hA HEND HDO k2
  go_wp2_with fail
  refine leaves_cons (f:=85) (args:=#[.pointer (some ⟨w.heap.size+2,0,none⟩),.pointer (some ⟨w.heap.size,0,none⟩)]) (by simp) (by simp[go_sem]) ?_
  refine HL.out.mono ?_
  rintro e u' w'' ⟨⟨v,rfl⟩,hst,oa,on,oc,q0,q1,hfin⟩
  simp[Leaves,hst,results,Tryz.results41,go_sem,q0,q1]
  exact hfin
structure Laid (w:World) (B vb:Nat) (gs:List G) (i:Nat) (sl:Bs->Nat):Prop where
 map:MapV w vb i (fun k=>((gs.take i).find? fun g=>g.name == k).map fun g=>.slice (some ⟨sl k,0,none⟩) (vlen g) (vlen g))
 at':∀ g∈gs.take i,B<=sl g.name/\w.heap[sl g.name]?=some (.cells (ints (List.replicate (vlen g) 0)).toArray 2 (0,0))
 inj:∀ g∈gs.take i,∀ g'∈gs.take i,sl g.name=sl g'.name->g.name=g'.name
theorem Laid.add {w w3:World}{B vb:Nat}{gs:List G}{i:Nat}{sl:Bs->Nat}(h:Laid w B vb gs i sl) (hi:i<gs.length) (hn:(gs.map (·.name)).Nodup) (hB:B<=w.heap.size) (_:vb<w.heap.size)
  (hm:MapV w3 vb (i+1) (updV (fun k=>((gs.take i).find? fun g=>g.name == k).map fun g=>.slice (some ⟨sl k,0,none⟩) (vlen g) (vlen g)) gs[i].name (.slice (some ⟨w.heap.size,0,none⟩) (vlen gs[i]) (vlen gs[i]))))
  (hx:∀ b,b<w.heap.size->b≠vb->w3.heap[b]?=w.heap[b]?) (hnew:w3.heap[w.heap.size]?=some (.cells (ints (List.replicate (vlen gs[i]) 0)).toArray 2 (0,0))) (hne:∀ g∈gs.take i,sl g.name≠vb):Laid w3 B vb gs (i+1) (fun k=>if k=gs[i].name then w.heap.size else sl k):=by
 have hnm:∀ g∈gs.take i,g.name≠gs[i].name:=fun g hg e=>by
  obtain⟨j,hj,rfl⟩:=List.getElem_of_mem hg
  rw[List.length_take]at hj
  rw[List.getElem_take]at e
  have:=(List.getElem_inj (h₀:=by simp;omega) (h₁:=by simpa using hi) hn (i:=j) (j:=i)).1 (by simpa using e)
  omega
 have hlt:∀ g∈gs.take i,sl g.name<w.heap.size:=fun g hg=>zf (h.at' g hg).2
 have htk:gs.take (i+1)=gs.take i++[gs[i]]:=List.take_succ_eq_append_getElem hi
 refine⟨?_,fun g hg=>?_,fun g hg g' hg' e=>?_⟩
 ·have ef:updV (fun k=>((gs.take i).find? fun g=>g.name == k).map fun g=>Value.slice (some ⟨sl k,0,none⟩) (vlen g) (vlen g)) gs[i].name (.slice (some ⟨w.heap.size,0,none⟩) (vlen gs[i]) (vlen gs[i]))=fun k=>((gs.take (i+1)).find? fun g=>g.name == k).map fun g=>.slice (some ⟨if k=gs[i].name then w.heap.size else sl k,0,none⟩) (vlen g) (vlen g):=by
   funext k
   unfold updV
   rw[htk,List.find?_append]
   by_cases e:k=gs[i].name
   ·rw[if_pos e]
    have:(gs.take i).find? (fun g=>g.name == k)=none:=by
     rw[List.find?_eq_none]
     intro g hg q
     exact hnm g hg ((by simpa using q:g.name=k).trans e)
    rw[this]
    simp[e]
   ·rw[if_neg e]
    have:([gs[i]]:List G).find? (fun g=>g.name == k)=none:=by
     rw[List.find?_eq_none]
     intro g hg q
     rw[List.mem_singleton]at hg
     subst hg
     exact e (by simpa using q:gs[i].name=k).symm
    rw[this]
    simp[e]
  rw[<-ef]
  exact hm
 ·rw[htk]at hg
  rcases List.mem_append.1 hg with q|q
  ·rw[if_neg (hnm g q)]
   exact⟨(h.at' g q).1,(hx _ (hlt g q) (hne g q)).trans (h.at' g q).2⟩
  ·rw[List.mem_singleton]at q
   subst q
   rw[if_pos rfl]
   exact⟨hB,hnew⟩
 ·rw[htk]at hg hg'
  rcases List.mem_append.1 hg with q|q <;> rcases List.mem_append.1 hg' with q'|q'
  ·rw[if_neg (hnm g q),if_neg (hnm g' q')]at e
   exact h.inj g q g' q' e
  ·rw[List.mem_singleton]at q'
   subst q'
   rw[if_neg (hnm g q),if_pos rfl]at e
   have:=hlt g q
   omega
  ·rw[List.mem_singleton]at q
   subst q
   rw[if_pos rfl,if_neg (hnm g' q')]at e
   have:=hlt g' q'
   omega
  ·rw[List.mem_singleton]at q q'
   rw[q,q']
end Go.Proofs.YtibncofnnlbmcaaGreatDoor
