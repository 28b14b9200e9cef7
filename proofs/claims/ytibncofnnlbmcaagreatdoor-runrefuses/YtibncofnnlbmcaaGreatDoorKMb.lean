import Derived.Test.YtibncofnnlbmcaaGreatDoorKMa
set_option maxRecDepth 100000
set_option maxHeartbeats 4000000
namespace Go.Proofs.YtibncofnnlbmcaaGreatDoor
open Go.RowKit Go.Sort
open Tp (Sy)
theorem Tryz.infoSym:(Tryz.prog.info? 205).map (fun i=>(i.zero,i.size,i.bytes))=some (some (.agg #[.string ⟨#[]⟩,.int .i64 0,.int .i64 0]),3,32):=by kernel_rfl
def AskOG (w:World) (gn:Nat) (ga:Option Addr) (xs:Nat->List Sy):Prop :=
 ∀ i,i<gn->∃(g:Nat) (x0:List UInt8) (x1 x2:Nat) (x3:Bool),ga=some ⟨g,0,none⟩/\g<w.heap.size/\w.cell? ⟨g,i * 4,none⟩=some (.string (bs x0))/\w.cell? ⟨g,i * 4+1,none⟩=some (.int .i64 (x1:Int))/\w.cell? ⟨g,i * 4+2,none⟩=some (.int .i64 (x2:Int))/\w.cell? ⟨g,i * 4+3,none⟩=some (.bool x3) /\
  xs (i+1)=xs i++(if x3 then [(x0,x2,-1)] else [])
def AskOP (w:World) (pn:Nat) (pa:Option Addr) (xs:Nat->List Sy):Prop :=
 ∀ i,i<pn->∃(g:Nat) (x0:List UInt8) (x1:Nat) (x2:Bool) (y3 y4 y5:Option Addr) (n3 n4 n5 c3 c4 c5:Nat),pa=some ⟨g,0,none⟩/\g<w.heap.size/\w.cell? ⟨g,i * 6,none⟩=some (.string (bs x0))/\w.cell? ⟨g,i * 6+1,none⟩=some (.int .i64 (x1:Int))/\w.cell? ⟨g,i * 6+2,none⟩=some (.bool x2)/\w.cell? ⟨g,i * 6+3,none⟩=some (.slice y3 n3 c3)/\w.cell? ⟨g,i * 6+4,none⟩=some (.slice y4 n4 c4)/\w.cell? ⟨g,i * 6+5,none⟩=some (.slice y5 n5 c5) /\
  xs (i+1)=xs i++(if x2 then [(x0,0,(n3:Int))] else [])
def SL (w:World) (B:Nat) (v:Value) (l:List Sy):Prop:=v=.slice none 0 0/\l=[]\/∃ g cap,v=.slice (some ⟨g,0,none⟩) l.length cap/\B<=g/\SyRow w g cap l
theorem own_syrow {w:World}{base n:Nat}{v:Value}{l:List Sy}(h:w.ownsRow base 205 3 v n (sycs l)):n=l.length/\SL w base v l:=by
 have hn:n=l.length:=by have:=h.1;rw[sycs_len]at this;omega
 refine⟨hn,?_⟩
 rcases h.2 with⟨rfl,h2⟩|⟨g,cap,cur,rfl,q1,q2,q3,q4,q5,q6⟩
 ·exact Or.inl ⟨rfl,List.eq_nil_of_length_eq_zero (by omega)⟩
 ·subst hn
  exact Or.inr ⟨g,cap,rfl,q1,⟨⟨cur,q2,q5,q6⟩,q3,q4⟩⟩
theorem newsSy (w:World) (o:Obj) (v0 v1 v2:Value) (t:TypeId):∀(j:Nat) (u:Value),([v0,v1,v2]:List Value)[j]?=some u->((w.alloc o).alloc (.cells #[v0,v1,v2] t)).cell? ((⟨w.heap.size+1,0,none⟩:Addr).add j)=some u:=by
 intro j u hj
 rw[Addr.add_lit,za (yj _ _ _),Nat.zero_add]
 simpa using hj
theorem of_walk {w:World}{nm:List UInt8}{inn gn pn bn ic gc pc bc:Nat}{ia ga pa ba:Option Addr}{mg mp:Nat->List Sy}(hg0:mg 0=[]) (hG:AskOG w gn ga mg) (hp0:mp 0=mg gn) (hP:AskOP w pn pa mp) (hgl:∀ i,(mg i).length<=1000) (hpl:∀ i,(mp i).length<=1000) (hlast:(mp pn).length<=20) (hgn:gn<=1000000000) (hpn:pn<=1000000000) :
  Calls Tryz.prog 84 #[.agg #[.string (bs nm),.slice ia inn ic,.slice ga gn gc,.slice pa pn pc,.slice ba bn bc]] w fun e w'=>∃ v,e=.returned v/\Below w.heap.size w w'/\SL w' w.heap.size v (srt (mp pn)):=by
 obtain⟨i3,hi3,hz30,hz31,hz32⟩:=info_parts Tryz.infoSym
 have hblk:(w.alloc (.cells #[.string (bs nm),.slice ia inn ic,.slice ga gn gc,.slice pa pn pc,.slice ba bn bc] 36)).heap[w.heap.size]?=some (.cells #[.string (bs nm),.slice ia inn ic,.slice ga gn gc,.slice pa pn pc,.slice ba bn bc] 36 (0,0)):=zo _ _
 obtain⟨k0,k1,k2,k3,k4⟩:=ym hblk
 have HG0:=zh hg0
 have HG:=zh hG
 have HP0:=zh hp0
 have HP:=zh hP
 have HLA:=zh hlast
 have HGL:=zh hgl
 have HPL:=zh hpl
 have HK:=zh hblk
 have hgn':(gn:Int)<=1000000000:=by omega
 have hpn':(pn:Int)<=1000000000:=by omega
 clear hg0 hG hp0 hP hlast hgl hpl hblk k0 k1 k3 k4
 go_enter Tryz.func84,Tryz.ntmps84
 go_wp2_with fail
 go_loopg [3,11] gn (fun k v vi wr=>∃ i:Nat,i<=gn/\k=gn - i/\vi=.int .i64 (i:Int)/\Hid (wr.ownsRow (w.heap.size+1) 205 3 v (mg i).length (sycs (mg i)))/\Hid (Below (w.heap.size+1) (w.alloc (.cells #[.string (bs nm),.slice ia inn ic,.slice ga gn gc,.slice pa pn pc,.slice ba bn bc] 36)) wr))
 case atStart=>exact⟨0,by omega,by omega,rfl,by unfold Hid;rw[HG0.out];exact World.ownsRow_nil _ _ _ _,Below.refl _ _⟩
 case round =>
  obtain⟨i,hid,hk,rfl,HO,HB⟩:=hrel
  have hown:=HO.out
  have hml:=HGL.out i
  have hsz:=HB.out.size
  have hsz1:(w.alloc (.cells #[.string (bs nm),.slice ia inn ic,.slice ga gn gc,.slice pa pn pc,.slice ba bn bc] 36)).heap.size=w.heap.size+1:=by simp
  by_cases hlt:i<gn
  ·have hlt':(i:Int)<(gn:Int):=by omega
   obtain⟨g,x0,x1,x2,x3,hga,hgB,c0,c1',c2,c3,hx⟩:=HG.out i hlt
   subst hga
   have hcell:∀(o:Nat) (u:Value),w.cell? ⟨g,o,none⟩=some u->wr.cell? ⟨g,o,none⟩=some u:=fun o u h=>(HB.out.cell (p:=⟨g,o,none⟩) (by simp;omega)).trans (yd h _)
   have kc0:=hcell _ _ c0
   have kc1:=hcell _ _ c1'
   have kc2:=hcell _ _ c2
   have kc3:=hcell _ _ c3
   have hlgr:g<wr.heap.size:=by omega
   obtain⟨a1,c1,hv⟩:=zw hown
   subst hv
   clear c0 c1' c2 c3 hcell HO
   cases x3 with
   | true =>
    have hownA:=(hown.alloc (.cells #[.string (bs x0),.int .i64 (x1:Int),.int .i64 (x2:Int),.bool true] 61)).alloc (.cells #[.string (bs x0),.int .i64 (x2:Int),.int .i64 (-1)] 205)
    go_wp2_with (at_builtin;refine zG _ rfl _ _ 149 rfl (w.heap.size+1) 205 i3 (.agg #[.string ⟨#[]⟩,.int .i64 0,.int .i64 0]) 3 32 Tryz.underlying149 hi3 hz30 hz31 hz32 rfl (by decide) _ _ _ rfl hownA ⟨wr.heap.size+1,0,none⟩ 1 1 [.string (bs x0),.int .i64 (x2:Int),.int .i64 (-1)] rfl rfl (newsSy wr _ _ _ _ _) (by intro u hu;simp at hu;rcases hu with rfl|rfl|rfl <;> rfl) (by unfold maxLen;omega) (by omega) (by simp;omega) ?_)
    intro v3 w3 hown3 hgrow3 _
    have HB3:=zh ((((HB.out.alloc (by omega) _).alloc (by simp;omega) _)).grown hgrow3 (by simp;omega) (fun k hk=>(hownA.lt k hk).1))
    have HO3:Hid (w3.ownsRow (w.heap.size+1) 205 3 v3 (mg (i+1)).length (sycs (mg (i+1)))):=by
     unfold Hid
     rw[show mg (i+1)=mg i++[(x0,x2,(-1))] by simpa using hx,sycs_app,List.length_append]
     exact hown3
    clear hown3 hgrow3 hownA hown
    go_wp2_with fail
    go_roundg (gn - (i+1))
    case measure=>omega
    case rel=>exact⟨i+1,by omega,rfl,by go_num,HO3,HB3⟩
   | false =>
    have HB3:∀ ob,Below (w.heap.size+1) _ (wr.alloc ob):=fun ob=>HB.out.alloc (by omega) _
    have HO3:∀ ob,Hid ((wr.alloc ob).ownsRow (w.heap.size+1) 205 3 (.slice a1 (mg i).length c1) (mg (i+1)).length (sycs (mg (i+1)))):=by
     intro ob
     unfold Hid
     rw[show mg (i+1)=mg i by simpa using hx]
     exact hown.alloc ob
    have HB3':=zh HB3
    clear hown HB3
    go_wp2_with fail
    go_roundg (gn - (i+1))
    case measure=>omega
    case rel=>exact⟨i+1,by omega,rfl,by go_num,HO3 _,HB3'.out _⟩
  ·have hlt':¬(i:Int)<(gn:Int):=by omega
   have hei:i=gn:=by omega
   have HO2:Hid (wr.ownsRow (w.heap.size+1) 205 3 u3 (mp 0).length (sycs (mp 0))):=by unfold Hid;rw[HP0.out,<-hei];exact hown
   have HB2:=HB
   have k3:wr.cell? ⟨w.heap.size,3,none⟩=some (.slice pa pn pc):=(HB.out.cell (p:=⟨w.heap.size,3,none⟩) (by simp)).trans (ym HK.out).2.2.2.1
   have hltb:w.heap.size<wr.heap.size:=by omega
   clear HO hown HB HG HG0 hei hid hk hml hsz k2
   go_wp2_with fail
   go_loopg [3,29] pn (fun k v vi wr=>∃ i:Nat,i<=pn/\k=pn - i/\vi=.int .i64 (i:Int)/\Hid (wr.ownsRow (w.heap.size+1) 205 3 v (mp i).length (sycs (mp i)))/\Hid (Below (w.heap.size+1) (w.alloc (.cells #[.string (bs nm),.slice ia inn ic,.slice ga gn gc,.slice pa pn pc,.slice ba bn bc] 36)) wr))
   case atStart=>exact⟨0,by omega,by omega,rfl,HO2,HB2⟩
   case round =>
    obtain⟨j,hjd,hk2,rfl,HO,HB⟩:=hrel
    clear HO2 HB2 k3 hltb
    have hown:=HO.out
    have hml:=HPL.out j
    have hsz:=HB.out.size
    by_cases hlt2:j<pn
    ·have hlt2':(j:Int)<(pn:Int):=by omega
     obtain⟨g,x0,x1,x2,y3,y4,y5,n3,n4,n5,d3,d4,d5,hpa,hgB,c0,c1',c2,c3,c4,c5,hx⟩:=HP.out j hlt2
     subst hpa
     have hcell:∀(o:Nat) (u:Value),w.cell? ⟨g,o,none⟩=some u->wr.cell? ⟨g,o,none⟩=some u:=fun o u h=>(HB.out.cell (p:=⟨g,o,none⟩) (by simp;omega)).trans (yd h _)
     have kc0:=hcell _ _ c0
     have kc1:=hcell _ _ c1'
     have kc2:=hcell _ _ c2
     have kc3:=hcell _ _ c3
     have kc4:=hcell _ _ c4
     have kc5:=hcell _ _ c5
     have hlgr:g<wr.heap.size:=by omega
     obtain⟨a1,c1,hv⟩:=zw hown
     subst hv
     clear c0 c1' c2 c3 c4 c5 hcell HO
     cases x2 with
     | true =>
      have hownA:=(hown.alloc (.cells #[.string (bs x0),.int .i64 (x1:Int),.bool true,.slice y3 n3 d3,.slice y4 n4 d4,.slice y5 n5 d5] 65)).alloc (.cells #[.string (bs x0),.int .i64 0,.int .i64 (n3:Int)] 205)
      go_wp2_with (at_builtin;refine zG _ rfl _ _ 149 rfl (w.heap.size+1) 205 i3 (.agg #[.string ⟨#[]⟩,.int .i64 0,.int .i64 0]) 3 32 Tryz.underlying149 hi3 hz30 hz31 hz32 rfl (by decide) _ _ _ rfl hownA ⟨wr.heap.size+1,0,none⟩ 1 1 [.string (bs x0),.int .i64 0,.int .i64 (n3:Int)] rfl rfl (newsSy wr _ _ _ _ _) (by intro u hu;simp at hu;rcases hu with rfl|rfl|rfl <;> rfl) (by unfold maxLen;omega) (by omega) (by simp;omega) ?_)
      intro v3 w3 hown3 hgrow3 _
      have HB3:=zh ((((HB.out.alloc (by omega) _).alloc (by simp;omega) _)).grown hgrow3 (by simp;omega) (fun k hk=>(hownA.lt k hk).1))
      have HO3:Hid (w3.ownsRow (w.heap.size+1) 205 3 v3 (mp (j+1)).length (sycs (mp (j+1)))):=by
       unfold Hid
       rw[show mp (j+1)=mp j++[(x0,0,(n3:Int))] by simpa using hx,sycs_app,List.length_append]
       exact hown3
      clear hown3 hgrow3 hownA hown
      go_wp2_with fail
      go_roundg (pn - (j+1))
      case measure=>omega
      case rel=>exact⟨j+1,by omega,rfl,by go_num,HO3,HB3⟩
     | false =>
      have HB3:∀ ob,Below (w.heap.size+1) _ (wr.alloc ob):=fun ob=>HB.out.alloc (by omega) _
      have HO3:∀ ob,Hid ((wr.alloc ob).ownsRow (w.heap.size+1) 205 3 (.slice a1 (mp j).length c1) (mp (j+1)).length (sycs (mp (j+1)))):=by
       intro ob
       unfold Hid
       rw[show mp (j+1)=mp j by simpa using hx]
       exact hown.alloc ob
      have HB3':=zh HB3
      clear hown HB3
      go_wp2_with fail
      go_roundg (pn - (j+1))
      case measure=>omega
      case rel=>exact⟨j+1,by omega,rfl,by go_num,HO3 _,HB3'.out _⟩
    ·have hlt2':¬(j:Int)<(pn:Int):=by omega
     have hej:j=pn:=by omega
     rw[hej]at hown
     obtain⟨hln,hsl⟩:=own_syrow hown
     have HBF:Hid (Below w.heap.size w wr):=(((Below.refl w.heap.size w).alloc zn _).trans (HB.out.mono (by omega)))
     rcases hsl with⟨rfl,hnil⟩|⟨g,cap,rfl,hge,hrow⟩
     ·have HS:=zh (sort_nil wr)
      have hz0:srt (mp pn)=[]:=List.eq_nil_of_length_eq_zero (by rw[kR,hnil];rfl)
      unfold fnCmp at HS
      clear hown HO HB HP HP0 hej hml hsz
      go_wp2_with fail
      refine HS.out.mono ?_
      rintro e w9 ⟨rfl,rfl⟩
      go_wp2_with fail
      go_ret
      exact⟨_,rfl,HBF.out,Or.inl ⟨rfl,hz0⟩⟩
     ·have HS:=zh (sort_post hrow HLA.out)
      have HGE:=zh hge
      unfold fnCmp at HS
      have hlr:(srt (mp pn)).length=(mp pn).length:=kR _
      generalize (mp pn).length=ln at *
      clear hown HO HB HP HP0 hej hml hsz hrow hge
      go_wp2_with fail
      refine HS.out.mono ?_
      rintro e w9 ⟨rfl,h9,g9⟩
      have H9:=zh h9
      have G9:=zh g9
      clear h9 g9
      go_wp2_with fail
      go_ret
      refine⟨.slice (some ⟨g,0,none⟩) ln cap,rfl,HBF.out.trans ?_,Or.inr ⟨g,cap,by rw[hlr],by have:=HGE.out;omega,H9.out⟩⟩
      exact(Below.refl w.heap.size wr).grown G9.out (by have:=HBF.out.size;omega) (fun k hk=>by cases hk;have:=HGE.out;omega)
end Go.Proofs.YtibncofnnlbmcaaGreatDoor
namespace Go.Proofs.YtibncofnnlbmcaaGreatDoor
open Go.RowKit Go.Sort
open Tp (Sy G Pr)
theorem vX {α β:Type}(p:α->Bool) (f:α->β) (l:List α) (i:Nat) (h:i<l.length):((l.take (i+1)).filter p).map f=((l.take i).filter p).map f++(if p l[i] then [f l[i]] else []):=by
 rw[List.take_succ_eq_append_getElem h,List.filter_append,List.map_append]
 congr 1
 by_cases hp:p l[i]=true
 ·simp[hp]
 ·simp[hp]
theorem filt_len {α β:Type}(p:α->Bool) (f:α->β) (l:List α):((l.filter p).map f).length<=l.length:=by
 rw[List.length_map];exact List.length_filter_le _ _
def AllSmall (l:List Sy):Prop:=∀ s∈l,s.2.1<100/\s.2.2<100/\-1<=s.2.2/\s.1.length<=100
theorem uD {m:Tp.M}(hgc:m.vars.length<=10) (hpc:m.procs.length<=10) {w:World}{ia ga pa ba:Option Addr}{ic gc pc bc:Nat}(h:MB w w.heap.size m ia ga pa ba ic gc pc bc) :
  Calls Tryz.prog 84 #[.agg (mcells (bs m.name) (.slice ia m.imports.length ic) (.slice ga m.vars.length gc) (.slice pa m.procs.length pc) (.slice ba m.body.length bc))] w fun e w'=>∃ v,e=.returned v/\Below w.heap.size w w'/\SL w' w.heap.size v (srt (Tp.symsOf m)):=by
 obtain⟨nm,is,gs,ps,body⟩:=m
 obtain⟨pcs,p1,p2⟩:=h.pr
 have hgl:=h.gl
 simp only at hgl p1 p2 hgc hpc
 obtain⟨mg,hmg⟩:∃ mg:Nat->List Sy,mg=fun i=>((gs.take i).filter (·.seen)).map Tp.syG:=⟨_,rfl⟩
 obtain⟨mp,hmp⟩:∃ mp:Nat->List Sy,mp=fun i=>mg gs.length++((ps.take i).filter (·.seen)).map Tp.syP:=⟨_,rfl⟩
 have hlast:mp ps.length=Tp.symsOf ⟨nm,is,gs,ps,body⟩:=by rw[hmp,hmg];simp[Tp.symsOf]
 have hg0:mg 0=[]:=by rw[hmg];simp
 have hp0:mp 0=mg gs.length:=by rw[hmp];simp
 have b1:∀ i,(mg i).length<=10:=by
  intro i;rw[hmg];have:=filt_len (fun g:G=>g.seen) Tp.syG (gs.take i);simp only [List.length_take]at this ⊢;omega
 have b2:∀ i,(mp i).length<=20:=by
  intro i;rw[hmp];have:=filt_len (fun p:Pr=>p.seen) Tp.syP (ps.take i);have:=b1 gs.length;simp only [List.length_take,List.length_append]at *;omega
 rw[<-hlast]
 refine of_walk (mg:=mg) (mp:=mp) (gn:=gs.length) (pn:=ps.length) hg0 ?_ hp0 ?_ (fun i=>by have:=b1 i;omega) (fun i=>by have:=b2 i;omega) (b2 _) (by omega) (by omega)
 ·intro i hi
  obtain⟨g,cap,q1,q2,q3,q4⟩:=yt hgl (by omega)
  cases q1
  have hc:=fun j (hj:j<4)=>(q4 (i * 4+j) (by omega)).trans (xK gs i hi j hj)
  refine⟨g,gs[i].name,gs[i].pos,gs[i].len,gs[i].seen,rfl,q3,hc 0 (by omega),hc 1 (by omega),hc 2 (by omega),hc 3 (by omega),?_⟩
  rw[hmg]
  exact vX (fun g:G=>g.seen) Tp.syG gs i hi
 ·intro i hi
  obtain⟨g,cap,q1,q2,q3,q4⟩:=yt p2 (by omega)
  cases q1
  obtain⟨pv,vv,bv,bcs',r1,r2,r3,r4,r5⟩:=jk ps pcs p1 i hi
  have hc:=fun j (hj:j<6)=>(q4 (i * 6+j) (by omega)).trans (r1 j hj)
  obtain⟨y3,c3,rfl⟩:=r2.shape
  obtain⟨y4,c4,rfl⟩:=r3.shape
  obtain⟨y5,c5,rfl⟩:=r5.shape
  refine⟨g,ps[i].name,ps[i].pos,ps[i].seen,y3,y4,y5,ps[i].params.length,ps[i].vars.length,ps[i].body.length,c3,c4,c5,rfl,q3,hc 0 (by omega),hc 1 (by omega),hc 2 (by omega),hc 3 (by omega),hc 4 (by omega),hc 5 (by omega),?_⟩
  rw[hmp]
  simp only [List.append_assoc]
  congr 1
  exact vX (fun p:Pr=>p.seen) Tp.syP ps i hi
theorem SL.len {w:World}{B:Nat}{v:Value}{l:List Sy}(h:SL w B v l):∃ a c,v=.slice a l.length c:=by
 rcases h with⟨rfl,rfl⟩|⟨g,cap,rfl,_⟩
 ·exact⟨none,0,rfl⟩
 ·exact⟨_,_,rfl⟩
theorem SL.cell {w:World}{B:Nat}{a:Option Addr}{n c:Nat}{l:List Sy}(h:SL w B (.slice a n c) l) (i:Nat) (hi:i<l.length):∃ g,a=some ⟨g,0,none⟩/\B<=g/\g<w.heap.size/\∀ j,j<3->w.cell? ⟨g,i * 3+j,none⟩=(encSy l[i])[j]?:=by
 rcases h with⟨_,rfl⟩|⟨g,cap,q1,q2,q3⟩
 ·simp at hi
 ·cases q1
  obtain⟨cur,r1,r2,r3⟩:=q3.b
  refine⟨g,rfl,q2,zf r1,fun j hj=>?_⟩
  rw[za r1,<-Array.getElem?_toList,<-sycs_get l i hi j hj,<-r3,List.getElem?_take_of_lt (by omega)]
theorem SL.on {w w':World}{B:Nat}{v:Value}{l:List Sy}(h:SL w B v l) (k:Below w.heap.size w w'):SL w' B v l:=by
 rcases h with q|⟨g,cap,q1,q2,q3⟩
 ·exact Or.inl q
 ·obtain⟨cur,r1,r2,r3⟩:=q3.b
  exact Or.inr ⟨g,cap,q1,q2,⟨⟨cur,(k.block g (zf r1)).trans r1,r2,r3⟩,q3.n,q3.m⟩⟩
end Go.Proofs.YtibncofnnlbmcaaGreatDoor
namespace Go.Proofs.YtibncofnnlbmcaaGreatDoor
open Go.RowKit Go.Sort
open Tp (Sy)
theorem bs_inj {a b:List UInt8}(h:bs a=bs b):a=b:=by
 have:=congrArg (fun x:ByteArray=>x.data.toList) h
 simpa[bs] using this
theorem find1_post (s:Sy) (n:List UInt8) (W:World) (bp:Nat) (hc:W.cell? ⟨bp,0,none⟩=some (.string (bs n))) :
  Calls Tryz.prog 156 #[.agg #[.string (bs s.1),.int .i64 (s.2.1:Int),.int .i64 s.2.2],.pointer (some ⟨bp,0,none⟩)] W fun e w'=>e=.returned (.bool (decide (s.1=n)))/\Below W.heap.size W w':=by
 obtain⟨nm,x1,x2⟩:=s
 simp only
 have hlt:=World.block_lt_of_cell? _ _ hc
 by_cases h:nm=n
 ·subst h
  go_enter Tryz.func156,Tryz.ntmps156
  go_wp2_with fail
  go_ret
  exact⟨by simp,zb _ _⟩
 ·have hne:¬bs nm=bs n:=fun e=>h (bs_inj e)
  go_enter Tryz.func156,Tryz.ntmps156
  go_wp2_with fail
  go_ret
  exact⟨by simp[h,zj],zb _ _⟩
def fidx (l:List Sy) (n:List UInt8):Int:=match l.findIdx? (fun s=>s.1 == n) with
 | some i=>(i:Int)
 | none=>-1
theorem fidx_at {l:List Sy}{n:List UInt8}{i:Nat}(hi:i<l.length) (h:l[i].1=n) (hb:∀ k (hk:k<i),l[k].1≠n):fidx l n=(i:Int):=by
 unfold fidx
 have:l.findIdx? (fun s=>s.1 == n)=some i:=by
  rw[List.findIdx?_eq_some_iff_getElem]
  exact⟨hi,by simpa using h,fun j hj=>by simpa using hb j hj⟩
 rw[this]
theorem fidx_no {l:List Sy}{n:List UInt8}(hb:∀ k (hk:k<l.length),l[k].1≠n):fidx l n=-1:=by
 unfold fidx
 have:l.findIdx? (fun s=>s.1 == n)=none:=by
  rw[List.findIdx?_eq_none_iff]
  intro x hx
  obtain⟨k,hk,rfl⟩:=List.getElem_of_mem hx
  simpa using hb k hk
 rw[this]
theorem index_post {w:World}{B:Nat}{v:Value}{l:List Sy}(h:SL w B v l) (hn:l.length<=1000) (n:List UInt8) (bp:Nat) (hc:w.cell? ⟨bp,0,none⟩=some (.string (bs n))) :
  Calls Tryz.prog 155 #[v,.func (.func 156) #[] #[.pointer (some ⟨bp,0,none⟩)]] w fun e w'=>e=.returned (.int .i64 (fidx l n))/\Below w.heap.size w w':=by
 obtain⟨a,c,rfl⟩:=h.len
 have hn':(l.length:Int)<=1000:=by omega
 have hltp:=World.block_lt_of_cell? _ _ hc
 have HSL:=zh h
 have HC:=zh hc
 obtain⟨ln,hnl⟩:∃ ln,ln=l.length:=⟨_,rfl⟩
 rw[<-hnl]at hn' ⊢
 have HN:=zh hnl
 clear h hnl hc
 go_enter Tryz.func155,Tryz.ntmps155
 go_wp2_with fail
 go_loopg [8] ln (fun k vi wr=>∃ i:Nat,i<=ln/\k=ln - i/\vi=.int .i64 (i:Int)/\Hid (∀ k (hk:k<l.length),k<i->l[k].1≠n)/\Hid (Below w.heap.size w wr))
 case atStart=>exact⟨0,by omega,by omega,rfl,fun k _ hk=>by omega,Below.refl _ _⟩
 case round =>
  obtain⟨i,hid,hk,rfl,HI,HW⟩:=hrel
  by_cases hlt:i<ln
  ·have hlt':(i:Int)<(ln:Int):=by omega
   have hia:i<l.length:=by have:=HN.out;omega
   obtain⟨g,rfl,_,hgl,hcell⟩:=HSL.out.cell i hia
   have hc:=fun j (hj:j<3)=>(HW.out.cell (p:=⟨g,i * 3+j,none⟩) hgl).trans (hcell j hj)
   have kc0:wr.cell? ⟨g,i * 3,none⟩=some (.string (bs l[i].1)):=hc 0 (by omega)
   have kc1:wr.cell? ⟨g,i * 3+1,none⟩=some (.int .i64 (l[i].2.1:Int)):=hc 1 (by omega)
   have kc2:wr.cell? ⟨g,i * 3+2,none⟩=some (.int .i64 l[i].2.2):=hc 2 (by omega)
   have hlgr:g<wr.heap.size:=by have:=HW.out.size;omega
   have HF:=zh (find1_post l[i] n wr bp ((HW.out.cell (p:=⟨bp,0,none⟩) hltp).trans HC.out))
   have HAT:Hid (l[i].1=n->fidx l n=(i:Int)):=fun e=>fidx_at hia e (fun k hk=>HI.out k (by omega) hk)
   have HNX:Hid (¬l[i].1=n->∀ k (hk:k<l.length),k<i+1->l[k].1≠n):=by
    intro hne k hk hlt
    by_cases e:k=i
    ·subst e;exact hne
    ·exact HI.out k hk (by omega)
   clear hc hcell
   generalize l[i].1=x0 at *
   generalize l[i].2.1=x1 at *
   generalize l[i].2.2=x2 at *
   go_wp2_with fail
   refine HF.out.mono ?_
   rintro e w3 ⟨rfl,h3⟩
   have HW3:=zh (HW.out.trans (h3.mono HW.out.size))
   clear h3
   by_cases hx:x0=n
   ·rw[decide_eq_true hx]
    have he:=HAT.out hx
    go_wp2_with fail
    go_ret
    exact⟨by first|rfl|(rw[he];rfl),HW3.out⟩
   ·rw[decide_eq_false hx]
    have HI3:=zh (HNX.out hx)
    go_wp2_with fail
    go_roundg (ln - (i+1))
    case measure=>omega
    case rel=>exact⟨i+1,by omega,rfl,by go_num,HI3,HW3⟩
  ·have hlt':¬(i:Int)<(ln:Int):=by omega
   have he:fidx l n=-1:=fidx_no (fun k hk=>HI.out k hk (by have:=HN.out;omega))
   go_wp2_with fail
   go_ret
   exact⟨by first|rfl|(rw[he];rfl),HW.out⟩
theorem vW {w:World}{B:Nat}{v:Value}{l:List Sy}(h:SL w B v l) (hn:l.length<=1000) (n:List UInt8) :
  Calls Tryz.prog 127 #[v,.string (bs n)] w fun e w'=>e=.returned (.int .i64 (fidx l n))/\Below w.heap.size w w':=by
 have hmf:=zm
 have hal:Below w.heap.size w (w.alloc (.cells #[.string (bs n)] 9)):=zb _ _
 have HC:=zh (index_post (h.on hal) hn n w.heap.size (za (zo _ _)))
 have HAL:=zh hal
 obtain⟨a,c,rfl⟩:=h.len
 clear h
 generalize l.length=ln at *
 go_enter Tryz.func127,Tryz.ntmps127
 go_wp2_with fail
 refine HC.out.mono ?_
 rintro e w1 ⟨rfl,h1⟩
 have H1:=zh (HAL.out.trans (h1.mono (by simp)))
 clear h1
 go_wp2_with fail
 go_ret
 exact⟨rfl,H1.out⟩
end Go.Proofs.YtibncofnnlbmcaaGreatDoor
namespace Go.Proofs.YtibncofnnlbmcaaGreatDoor
open Go.RowKit Go.Maps
open Tp (Bs Th Sy Seen)
def SeenM (w:World) (sb n:Nat) (S:Seen):Prop:=∃ f,MapV w sb n f/\∀ k,match S k with
 | none=>f k=none
 | some l=>∃ v,f k=some v/\SL w 0 v l/\l.length<=1000
theorem MapV.blk {w:World}{b n:Nat}{f:Bs->Option Value}(h:MapV w b n f):∃ es c,w.heap[b]?=some (.map es c):=by
 obtain⟨D,⟨es,clock,h1,_⟩,_⟩:=h.own
 exact⟨es,clock,h1⟩
theorem SL.ext {w w':World}{B b:Nat}{v:Value}{l:List Sy}(h:SL w B v l) (k:Ext b w w') (hb:∃ es c,w.heap[b]?=some (.map es c)):SL w' B v l:=by
 rcases h with q|⟨g,cap,q1,q2,q3⟩
 ·exact Or.inl q
 ·obtain⟨cur,r1,r2,r3⟩:=q3.b
  obtain⟨es,c,hm⟩:=hb
  have hne:g≠b:=fun e=>by rw[e,hm]at r1;cases r1
  exact Or.inr ⟨g,cap,q1,q2,⟨⟨cur,(k.block g (zf r1) hne).trans r1,r2,r3⟩,q3.n,q3.m⟩⟩
theorem SL.shape {w:World}{B:Nat}{v:Value}{l:List Sy}(h:SL w B v l):∃ a c,v=.slice a l.length c:=h.len
theorem SeenM.on {w w':World}{sb n:Nat}{S:Seen}(h:SeenM w sb n S) (k:Below w.heap.size w w'):SeenM w' sb n S:=by
 obtain⟨f,h1,h2⟩:=h
 refine⟨f,h1.on (k.block _ h1.lt),fun q=>?_⟩
 have:=h2 q
 cases hq:S q with
 | none=>rw[hq]at this;exact this
 | some l=>rw[hq]at this;obtain⟨v,a,b,c⟩:=this;exact⟨v,a,b.on k,c⟩
theorem SeenM.lt {w:World}{sb n:Nat}{S:Seen}(h:SeenM w sb n S):sb<w.heap.size:=by
 obtain⟨f,h1,_⟩:=h
 exact h1.lt
theorem SeenM.ext {w w':World}{sb n b:Nat}{S:Seen}(h:SeenM w sb n S) (k:Ext b w w') (hb:∃ es c,w.heap[b]?=some (.map es c)) (hne:sb≠b):SeenM w' sb n S:=by
 obtain⟨f,h1,h2⟩:=h
 refine⟨f,h1.on (k.block _ h1.lt hne),fun q=>?_⟩
 have:=h2 q
 cases hq:S q with
 | none=>rw[hq]at this;exact this
 | some l=>rw[hq]at this;obtain⟨v,a,b,c⟩:=this;exact⟨v,a,b.ext k hb,c⟩
def SeenV (w:World) (sv:Value) (S:Seen):Prop:=(sv=.map none/\∀ k,S k=none)\/∃ sb n,sv=.map (some sb)/\SeenM w sb n S
theorem SeenV.on {w w':World}{sv:Value}{S:Seen}(h:SeenV w sv S) (k:Below w.heap.size w w'):SeenV w' sv S:=by
 rcases h with q|⟨sb,n,h1,h2⟩
 ·exact Or.inl q
 ·exact Or.inr ⟨sb,n,h1,h2.on k⟩
theorem SeenM.look {w:World}{sb n:Nat}{S:Seen}(h:SeenM w sb n S) (l:Bs) (hl:l.length<=1000000) (c:Bool):∃ v,(Instr.lookup 90 (.map (some sb)) (.string (bs l)) c).run Tryz.prog w=.ok (if c then .tuple #[v,.bool (S l).isSome] else v) w/\(∃ a n d,v=.slice a n d)/\SL w 0 v ((S l).getD [])/\((S l).getD []).length<=1000:=by
 obtain⟨f,h1,h2⟩:=h
 have hr:=h1.look (t:=90) Tryz.underlying90 (zeroSyms w) l hl c
 have:=h2 l
 cases hq:S l with
 | none =>
  rw[hq]at this
  rw[this]at hr
  exact⟨_,hr,⟨none,0,0,rfl⟩,Or.inl ⟨rfl,rfl⟩,by simp⟩
 | some ll =>
  rw[hq]at this
  obtain⟨v,a,b,d⟩:=this
  rw[a]at hr
  obtain⟨a1,c1,hv⟩:=b.shape
  exact⟨_,hr,⟨_,_,_,hv⟩,b,d⟩
theorem SeenV.look {w:World}{sv:Value}{S:Seen}(h:SeenV w sv S) (l:Bs) (hl:l.length<=1000000) (c:Bool):∃ v,(Instr.lookup 90 sv (.string (bs l)) c).run Tryz.prog w=.ok (if c then .tuple #[v,.bool (S l).isSome] else v) w/\(∃ a n d,v=.slice a n d)/\SL w 0 v ((S l).getD [])/\((S l).getD []).length<=1000:=by
 rcases h with⟨rfl,hn⟩|⟨sb,n,rfl,h1⟩
 ·have hr:=ky w (t:=90) Tryz.underlying90 (zeroSyms w) l hl c
  rw[hn l]
  exact⟨_,hr,⟨none,0,0,rfl⟩,Or.inl ⟨rfl,rfl⟩,by simp⟩
 ·exact h1.look l hl c
theorem SeenM.store {w w':World}{sb n:Nat}{S:Seen}{f:Bs->Option Value}(hf:MapV w sb n f) (h:∀ k,match S k with
 | none=>f k=none
 | some l=>∃ v,f k=some v/\SL w 0 v l/\l.length<=1000) {x:Bs} {v:Value} {l:List Sy} (hv:SL w 0 v l) (hl:l.length<=1000) (h1:MapV w' sb (n+1) (updV f x v)) (h2:Ext sb w w'):SeenM w' sb (n+1) (fun k=>if k=x then some l else S k):=by
 refine⟨_,h1,fun k=>?_⟩
 by_cases hk:k=x
 ·simp only [if_pos hk,updV]
  exact⟨v,rfl,hv.ext h2 hf.blk,hl⟩
 ·simp only [if_neg hk,updV]
  have:=h k
  cases hq:S k with
  | none=>rw[hq]at this;exact this
  | some ll=>rw[hq]at this;obtain⟨u,a,b,c⟩:=this;exact⟨u,a,b.ext h2 hf.blk,c⟩
theorem kC (w:World) {ops:Array Oper}{rest:List Oper}{o:Oper}{a:Act}{Q:Exit->Act->World->Prop}
  (hg:o.guard=none) (m x v:Operand) (hop:o.op=Op.mapUpdate 90 m x v)
  (b n:Nat) (S:Seen) (hown:SeenM w b n S) (hn:n<1000000) (l:Bs) (hl:l.length<=1000000) (val:Value) (ll:List Sy) (hsl:SL w 0 val ll) (hll:ll.length<=1000) (hm:a.eval m=.map (some b)) (hx:a.eval x=.string (bs l)) (hv:a.eval v=val)
  (hK:∀ w',SeenM w' b (n+1) (fun k=>if k=l then some ll else S k)->Ext b w w'->w'.heap.size=w.heap.size->wpList Tryz.prog ops Q rest (a.put o.dst undef) w') :
  wpList Tryz.prog ops Q (o :: rest) a w:=by
 obtain⟨f,h1,h2⟩:=hown
 exact yf w hg m x v _ hop _ Tryz.underlying90 b n f h1 hn l hl val hm hx hv (fun w' q1 q2 q3=>hK w' (SeenM.store h1 h2 hsl hll q1 q2) q2 q3)
def impsAt (own:Bs) (S:Seen) (l:List Bs) (i:Nat):Tp.Ck:=Tp.imps own S (l.take i).reverse (l.drop i)
theorem uN (own:Bs) (S:Seen) (l:List Bs):impsAt own S l 0=Tp.imps own S [] l:=by simp[impsAt]
theorem impsAt_all (own:Bs) (S:Seen) (l:List Bs):impsAt own S l l.length=none:=by simp[impsAt,Tp.imps]
theorem uO (own:Bs) (S:Seen) {l:List Bs}{i:Nat}{x:Bs}(h:l[i]?=some x):impsAt own S l i=if x=own\/x∈l.take i then some (10,none) else if S x=none then some (8,none) else impsAt own S l (i+1):=by
 obtain⟨hi,e⟩:=List.getElem?_eq_some_iff.1 h
 unfold impsAt
 rw[List.drop_eq_getElem_cons hi,e,Tp.imps,List.take_succ_eq_append_getElem hi,List.reverse_append,e]
 simp
def upTo (S:Seen) (l:List Bs) (i:Nat):Seen:=fun k=>if k∈l.take i then S k else none
theorem upTo_succ {S:Seen}{l:List Bs}{i:Nat}{x:Bs}{ll:List Sy}(h:l[i]?=some x) (hs:S x=some ll):upTo S l (i+1)=fun k=>if k=x then some ll else upTo S l i k:=by
 obtain⟨hi,e⟩:=List.getElem?_eq_some_iff.1 h
 funext k
 unfold upTo
 rw[List.take_succ_eq_append_getElem hi,e]
 by_cases hk:k=x
 ·rw[if_pos (by simp[hk]),if_pos hk,hk,hs]
 ·rw[if_neg hk]
  have:k∈l.take i++[x]↔k∈l.take i:=by simp[hk]
  by_cases hm:k∈l.take i
  ·rw[if_pos (this.2 hm),if_pos hm]
  ·rw[if_neg (fun q=>hm (this.1 q)),if_neg hm]
def thrownE (en:Nat):Ending:=.panicked [{ v:=.iface 44 (.int .i64 (en:Int)),recovered:=false }]
def ImpP (w:World) (own:Bs) (is:List Bs) (S:Seen) (e:Ending) (w':World):Prop:=Below w.heap.size w w'/\match Tp.imps own S [] is with
 | none=>∃ ob n,e=.returned (.map (some ob))/\w.heap.size<=ob/\SeenM w' ob n (fun k=>if k∈is then S k else none)
 | some er=>e=thrownE er.1
def AskI (w:World) (inn:Nat) (ia:Option Addr) (is:List Bs):Prop :=
 ∀ i,i<inn->∃(g:Nat) (x:Bs),ia=some ⟨g,0,none⟩/\g<w.heap.size/\w.cell? ⟨g,i,none⟩=some (.string (bs x))/\x.length<=1000000/\is[i]?=some x
theorem beq_bs (a b:Bs):((bs a).toList == (bs b).toList)=decide (a=b):=by rw[Bool.eq_iff_iff,decide_eq_true_iff,beq_iff_eq,zj,zj]
theorem xJ {w:World}{nm:Bs}{inn gn pn bn ic gc pc bc:Nat}{ia ga pa ba:Option Addr}{is:List Bs}{S:Seen}{sv:Value}(hI:AskI w inn ia is) (hl:is.length=inn) (hin:inn<=1000) (hS:SeenV w sv S) :
  Calls Tryz.prog 79 #[.agg #[.string (bs nm),.slice ia inn ic,.slice ga gn gc,.slice pa pn pc,.slice ba bn bc],sv] w (ImpP w nm is S):=by
 obtain⟨wm,hwm⟩:∃ wm,wm=w.alloc (.cells #[.string (bs nm),.slice ia inn ic,.slice ga gn gc,.slice pa pn pc,.slice ba bn bc] 36):=⟨_,rfl⟩
 have hblk0:wm.heap[w.heap.size]?=some (.cells #[.string (bs nm),.slice ia inn ic,.slice ga gn gc,.slice pa pn pc,.slice ba bn bc] 36 (0,0)):=by rw[hwm];exact zo _ _
 have hszm:wm.heap.size=w.heap.size+1:=by rw[hwm];simp
 have hbe:Below w.heap.size w (wm.alloc (.map #[] 0)):=by rw[hwm];exact(zb _ _).alloc (by simp) _
 have hmv:=MapV.made wm
 rw[hszm]at hmv
 have hsm:SeenM (wm.alloc (.map #[] 0)) (w.heap.size+1) 0 (upTo S is 0):=⟨_,hmv,fun k=>by simp[upTo]⟩
 have hblk:(wm.alloc (.map #[] 0)).heap[w.heap.size]?=some (.cells #[.string (bs nm),.slice ia inn ic,.slice ga gn gc,.slice pa pn pc,.slice ba bn bc] 36 (0,0)):=(Below.heap_alloc _ _ _ (by omega)).trans hblk0
 obtain⟨k0,k1,k2,k3,k4⟩:=zZ hblk
 have hmm:=@run_makeMap Tryz.prog
 have HI:=zh hI
 have HL:=zh hl
 have HK:=zh hblk
 have HSM:=zh hsm
 have HMB:=zh hmv.blk
 have HBE:=zh hbe
 have HS:Hid (SeenV (wm.alloc (.map #[] 0)) sv S):=hS.on hbe
 have HSB:Hid (∀ sb,sv=.map (some sb)->sb<w.heap.size):=by
  rcases hS with⟨rfl,_⟩|⟨sb,n,rfl,q⟩
  ·intro sb e;cases e
  ·intro sb' e;cases e;exact q.lt
 have hin':(inn:Int)<=1000:=by omega
 clear hI hl hblk hsm hmv hbe hS k0 k2 k3 k4 hblk0
 go_enter Tryz.func79,Tryz.ntmps79
 go_wp2_with fail
 rw[<-hwm]
 have hsz0:w.heap.size+2<=(wm.alloc (.map #[] 0)).heap.size:=by simp;omega
 generalize wm.alloc (.map #[] 0)=w0 at *
 clear hwm hszm wm hmm
 go_loopg [16] inn (fun k vi wr=>∃ i:Nat,i<=inn/\k=inn - i/\vi=.int .i64 (i:Int)/\Hid (SeenM wr (w.heap.size+1) i (upTo S is i))/\Hid (Ext (w.heap.size+1) w0 wr)/\Hid (Tp.imps nm S [] is=impsAt nm S is i/\∀ k∈is.take i,S k≠none))
 case atStart=>exact⟨0,by omega,by omega,rfl,HSM,Ext.refl _ _,(uN _ _ _).symm,by simp⟩
 case round =>
  obtain⟨i,hid,hk,rfl,HTM,HE,HIM⟩:=hrel
  have hsz:=HE.out.size
  by_cases hlt:i<inn
  ·have hlt':(i:Int)<(inn:Int):=by omega
   obtain⟨g,x,hga,hgB,c0,hxl,hx⟩:=HI.out i hlt
   subst hga
   have kc0:wr.cell? ⟨g,i,none⟩=some (.string (bs x)):=HE.out.cell ((HBE.out.cell (p:=⟨g,i,none⟩) hgB).trans c0) (by simp;omega)
   have kn0:wr.cell? ⟨w.heap.size,0,none⟩=some (.string (bs nm)):=HE.out.cell (zZ HK.out).1 (by simp)
   have hlgr:g<wr.heap.size:=by omega
   have hlwr:w.heap.size<wr.heap.size:=by omega
   have HX:=zh hx
   have HST:=zh (uO nm S hx)
   obtain⟨v1,hlook1,⟨a1,n1,d1,hv1⟩,_,_⟩:=HTM.out.look x hxl true
   subst hv1
   have HB3:Hid (Below w.heap.size w wr):=HBE.out.trans (zX HE.out (by omega) (by omega))
   have hah:(upTo S is i x).isSome=decide (x∈is.take i):=by
    unfold upTo
    by_cases hm:x∈is.take i
    ·rw[if_pos hm,decide_eq_true hm]
     exact Option.isSome_iff_ne_none.2 (HIM.out.2 x hm)
    ·rw[if_neg hm,decide_eq_false hm];rfl
   rw[hah]at hlook1
   clear c0 hx hah
   by_cases hm:x∈is.take i
   ·rw[decide_eq_true hm]at hlook1
    simp only [if_true]at hlook1
    have HD:Hid (Tp.imps nm S [] is=some (10,none)):=by unfold Hid;rw[HIM.out.1,HST.out,if_pos (Or.inr hm)]
    clear hm
    go_wp2_with fail
    refine⟨rfl,HB3.out,?_⟩
    rw[HD.out]
    rfl
   ·rw[decide_eq_false hm]at hlook1
    simp only [if_true]at hlook1
    have heqb:=beq_bs x nm
    by_cases hq:x=nm
    ·rw[decide_eq_true hq]at heqb
     have HD:Hid (Tp.imps nm S [] is=some (10,none)):=by unfold Hid;rw[HIM.out.1,HST.out,if_pos (Or.inl hq)]
     clear hm hq
     go_wp2_with fail
     refine⟨rfl,HB3.out,?_⟩
     rw[HD.out]
     rfl
    ·rw[decide_eq_false hq]at heqb
     have HS1:Hid (SeenV wr sv S):=by
      have hs0:=HS.out
      rcases hs0 with q|⟨sb,n,h1,h2⟩
      ·exact Or.inl q
      ·exact Or.inr ⟨sb,n,h1,h2.ext HE.out HMB.out (by have:=HSB.out sb h1;omega)⟩
     obtain⟨v2,hlook2,⟨a2,n2,d2,hv2⟩,hsl2,hll2⟩:=HS1.out.look x hxl true
     subst hv2
     have HSL:=zh hsl2
     have HLL:=zh hll2
     have HNO:Hid (¬(x=nm\/x∈is.take i)):=fun e=>e.elim hq hm
     clear hsl2 hll2 hm hq
     cases hsx:S x with
     | none =>
      rw[hsx]at hlook2
      simp only [Option.isSome_none,if_true]at hlook2
      have HD:Hid (Tp.imps nm S [] is=some (8,none)):=by unfold Hid;rw[HIM.out.1,HST.out,if_neg HNO.out,if_pos hsx]
      clear hsx
      go_wp2_with fail
      refine⟨rfl,HB3.out,?_⟩
      rw[HD.out]
      rfl
     | some ll =>
      rw[hsx]at hlook2 HSL HLL
      simp only [Option.isSome_some,if_true]at hlook2
      have HSX:=zh hsx
      clear hsx
      go_wp2_with (at_mapUpdate;refine kC _ rfl _ _ _ rfl (w.heap.size+1) i (upTo S is i) HTM.out (by omega) x hxl (.slice a2 n2 d2) ll HSL.out HLL.out rfl rfl rfl ?_;intro w3 q1 q2 q3)
      have HT3:Hid (SeenM w3 (w.heap.size+1) (i+1) (upTo S is (i+1))):=by unfold Hid;rw[upTo_succ HX.out HSX.out];exact q1
      have HE3:=zh (HE.out.trans q2)
      have HIM3:Hid (Tp.imps nm S [] is=impsAt nm S is (i+1)/\∀ k∈is.take (i+1),S k≠none):=by
       refine⟨by rw[HIM.out.1,HST.out,if_neg HNO.out,if_neg (by rw[HSX.out];simp)],fun k hk=>?_⟩
       obtain⟨hi,e⟩:=List.getElem?_eq_some_iff.1 HX.out
       rw[List.take_succ_eq_append_getElem hi,e,List.mem_append]at hk
       rcases hk with hk|hk
       ·exact HIM.out.2 k hk
       ·rw[List.mem_singleton.1 hk,HSX.out];simp
      clear q1 q2 q3
      go_wp2_with fail
      go_roundg (inn - (i+1))
      case measure=>omega
      case rel=>exact⟨i+1,by omega,rfl,by go_num,HT3,HE3,HIM3⟩
  ·have hlt':¬(i:Int)<(inn:Int):=by omega
   have hei:i=is.length:=by have:=HL.out;omega
   have HF1:Hid (Tp.imps nm S [] is=none):=by unfold Hid;rw[HIM.out.1,hei,impsAt_all]
   have HF2:Hid (SeenM wr (w.heap.size+1) i (fun k=>if k∈is then S k else none)):=by
    have:=HTM.out
    rw[hei]at this ⊢
    unfold upTo at this
    rw[List.take_length]at this
    exact this
   have HB3:Hid (Below w.heap.size w wr):=HBE.out.trans (zX HE.out (by omega) (by omega))
   clear HTM HE HIM hei
   go_wp2_with fail
   go_ret
   refine⟨HB3.out,?_⟩
   rw[HF1.out]
   exact⟨_,_,rfl,by omega,HF2.out⟩
theorem fidx_of (l:List Sy) (n:Bs):(∃(k:Nat) (hk:k<l.length),fidx l n=(k:Int)/\Tp.findS l n=some l[k])\/fidx l n=-1/\Tp.findS l n=none:=by
 unfold fidx Tp.findS
 cases h:l.findIdx? (fun s=>s.1 == n) with
 | some k =>
  left
  have h':=h
  rw[List.findIdx?_eq_some_iff_getElem]at h'
  obtain⟨hk,h1,h2⟩:=h'
  refine⟨k,hk,rfl,?_⟩
  rw[List.find?_eq_some_iff_getElem]
  exact⟨by simpa using h1,k,hk,rfl,fun j hj=>by simpa using h2 j hj⟩
 | none =>
  right
  refine⟨rfl,?_⟩
  rw[List.find?_eq_none]
  rw[List.findIdx?_eq_none_iff]at h
  intro x hx
  simpa using h x hx
def lookRes (r:Except Nat (Nat× Int)):Value:=match r with
 | .ok x=>.tuple #[.agg #[.int .i64 (x.1:Int),.int .i64 x.2],.int .i64 0]
 | .error e=>.tuple #[.agg #[.int .i64 0,.int .i64 0],.int .i64 (e:Int)]
def seenRes (o:Option (List Sy)) (nm:Bs):Except Nat (Nat× Int):=match o with
 | none=>.error 5
 | some l=>match Tp.findS l nm with
  | some s=>.ok s.2
  | none=>.error 7
theorem xL {w:World}{ob n:Nat}{S:Seen}(h:SeenM w ob n S) (md nm:Bs) (hl:md.length<=1000000) :
  Calls Tryz.prog 115 #[.map (some ob),.string (bs md),.string (bs nm)] w fun e w'=>e=.returned (lookRes (seenRes (S md) nm))/\Below w.heap.size w w':=by
 have hal:∀ ob',Below w.heap.size w (w.alloc ob'):=fun ob'=>zb _ _
 obtain⟨w0,hw0⟩:∃ w0,w0=w.alloc (.cells #[.int .i64 0,.int .i64 0] 196):=⟨_,rfl⟩
 have hb0:Below w.heap.size w w0:=by rw[hw0];exact hal _
 have hk0:w0.heap[w.heap.size]?=some (.cells #[.int .i64 0,.int .i64 0] 196 (0,0)):=by rw[hw0];exact zo _ _
 have hs0:w.heap.size<w0.heap.size:=by rw[hw0];simp
 obtain⟨v1,hlook1,⟨a1,n1,d1,hv1⟩,hsl,hll⟩:=(h.on hb0).look md hl true
 subst hv1
 have c0:w0.cell? ⟨w.heap.size,0,none⟩=some (.int .i64 0):=(za hk0).trans rfl
 have c1:w0.cell? ⟨w.heap.size,1,none⟩=some (.int .i64 0):=(za hk0).trans rfl
 have z0:w0.frozen? ⟨w.heap.size,0,none⟩=false:=zi hk0
 have z1:w0.frozen? ⟨w.heap.size,1,none⟩=false:=zi hk0
 have HB0:=zh hb0
 have HK0:=zh hk0
 clear hal h hb0 hk0
 cases hS:S md with
 | none =>
  rw[hS]at hlook1
  simp only [Option.isSome_none,if_true]at hlook1
  clear hS hsl hll
  go_enter Tryz.func115,Tryz.ntmps115
  go_upto_region 1 with fail
  rw[<-hw0]
  clear hw0
  go_wp2_with fail
  exact bodyPost_ret (v:=.tuple #[.agg #[.int .i64 0,.int .i64 0],.int .i64 5]) (by simp[results,Tryz.results115,go_sem,c0,c1]) rfl ⟨rfl,HB0.out.trans (zq (zq (Below.refl _ _) zn 0 _) zn 1 _)⟩
 | some l =>
  rw[hS]at hlook1 hsl hll
  simp only [Option.isSome_some,if_true,Option.getD_some]at hlook1 hsl hll
  clear hS
  have hfp:=vW hsl hll nm
  have HSL:=zh hsl
  have HFP:=zh hfp
  obtain⟨a9,c9,hv9⟩:=hsl.len
  cases hv9
  clear hsl hfp
  rcases fidx_of l nm with⟨k,hk,hfi,hfs⟩|⟨hfi,hfs⟩
  ·rw[hfi]at HFP
   have HRES:Hid (lookRes (seenRes (some l) nm)=.tuple #[.agg #[.int .i64 (l[k].2.1:Int),.int .i64 l[k].2.2],.int .i64 0]):=by unfold Hid seenRes;simp only;rw[hfs];rfl
   obtain⟨g,hag,_,hgl,hcell⟩:=HSL.out.cell k hk
   subst hag
   have q1:w0.cell? ⟨g,k * 3+1,none⟩=some (.int .i64 (l[k].2.1:Int)):=hcell 1 (by omega)
   have q2:w0.cell? ⟨g,k * 3+2,none⟩=some (.int .i64 l[k].2.2):=hcell 2 (by omega)
   have Q1:=zh q1
   have Q2:=zh q2
   have hkl:(k:Int)<(l.length:Int):=by omega
   have hll':(l.length:Int)<=1000:=by omega
   clear hcell hfi hfs q1 q2
   rw[HRES.out]
   clear HRES
   generalize l[k].2.1=x1 at *
   generalize l[k].2.2=x2 at *
   generalize l.length=ln at *
   go_enter Tryz.func115,Tryz.ntmps115
   go_upto_region 1 with fail
   rw[<-hw0]
   clear hw0
   go_wp2_with fail
   refine HFP.out.mono ?_
   rintro e w3 ⟨rfl,hb3⟩
   have e3:=(hb3.block _ hs0).trans HK0.out
   have r1:w3.cell? ⟨g,k * 3+1,none⟩=some (.int .i64 (x1:Int)):=(hb3.cell (p:=⟨g,_,none⟩) hgl).trans Q1.out
   have r2:w3.cell? ⟨g,k * 3+2,none⟩=some (.int .i64 x2):=(hb3.cell (p:=⟨g,_,none⟩) hgl).trans Q2.out
   have hgl3:g<w3.heap.size:=Nat.lt_of_lt_of_le hgl hb3.size
   have hs3:w.heap.size<w3.heap.size:=Nat.lt_of_lt_of_le hs0 hb3.size
   have s0:w3.cell? ⟨w.heap.size,0,none⟩=some (.int .i64 0):=(za e3).trans rfl
   have s1:w3.cell? ⟨w.heap.size,1,none⟩=some (.int .i64 0):=(za e3).trans rfl
   have t0:w3.frozen? ⟨w.heap.size,0,none⟩=false:=zi e3
   have t1:w3.frozen? ⟨w.heap.size,1,none⟩=false:=zi e3
   have HB3:Hid (Below w.heap.size w w3):=HB0.out.trans (hb3.mono (by omega))
   clear e3 hb3 c0 c1 z0 z1
   go_wp2_with fail
   go_region
   go_wp2_with fail
   exact bodyPost_ret (v:=.tuple #[.agg #[.int .i64 (x1:Int),.int .i64 x2],.int .i64 0]) (by simp[results,Tryz.results115,go_sem,s0,s1]) rfl ⟨rfl,HB3.out.trans (zq (zq ((Below.refl _ _).drew) zn 0 _) zn 1 _)⟩
  ·rw[hfi]at HFP
   have HRES:Hid (lookRes (seenRes (some l) nm)=.tuple #[.agg #[.int .i64 0,.int .i64 0],.int .i64 7]):=by unfold Hid seenRes;simp only;rw[hfs];rfl
   clear hfi hfs HSL
   rw[HRES.out]
   clear HRES
   generalize l.length=ln at *
   go_enter Tryz.func115,Tryz.ntmps115
   go_upto_region 1 with fail
   rw[<-hw0]
   clear hw0
   go_wp2_with fail
   refine HFP.out.mono ?_
   rintro e w3 ⟨rfl,hb3⟩
   have e3:=(hb3.block _ hs0).trans HK0.out
   have hs3:w.heap.size<w3.heap.size:=Nat.lt_of_lt_of_le hs0 hb3.size
   have s0:w3.cell? ⟨w.heap.size,0,none⟩=some (.int .i64 0):=(za e3).trans rfl
   have s1:w3.cell? ⟨w.heap.size,1,none⟩=some (.int .i64 0):=(za e3).trans rfl
   have t0:w3.frozen? ⟨w.heap.size,0,none⟩=false:=zi e3
   have t1:w3.frozen? ⟨w.heap.size,1,none⟩=false:=zi e3
   have HB3:Hid (Below w.heap.size w w3):=HB0.out.trans (hb3.mono (by omega))
   clear e3 hb3 c0 c1 z0 z1
   go_wp2_with fail
   exact bodyPost_ret (v:=.tuple #[.agg #[.int .i64 0,.int .i64 0],.int .i64 7]) (by simp[results,Tryz.results115,go_sem,s0,s1]) rfl ⟨rfl,HB3.out.trans (zq (zq (Below.refl _ _) zn 0 _) zn 1 _)⟩
end Go.Proofs.YtibncofnnlbmcaaGreatDoor
