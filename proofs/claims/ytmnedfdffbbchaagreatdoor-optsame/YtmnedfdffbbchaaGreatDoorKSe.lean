import Derived.Test.YtmnedfdffbbchaaGreatDoorKSd
set_option maxRecDepth 100000
set_option maxHeartbeats 4000000

namespace Go.Proofs.YtmnedfdffbbchaaGreatDoor.Jo
open Go.RowKit Go.Sort
open Ob (O In I64)
open Tp (Bs)
def FoI (g e nx n lb eb:Nat) (w:World) (v vv:Value) (W' pre:List In) (wr:World) (j:Nat):Prop:=∃ v',Ld wr n lb eb nx e ((W'.take j).foldl (Vm.addF g e nx) pre) v'/\Kpt w wr lb nilS v v'/\wr.ownsRow n 68 3 vv W'.length (cellsOf inC W')/\(∀ bg,vv.ownBlock=some bg->v'.ownBlock≠some bg)
theorem vq {o:O}{x:In}(h:Vm.Qi o x):x.op=9->0<=x.a/\x.a<11:=fun q=>do_range (h.n (fun r=>by rcases r with r|r <;> omega)) q
theorem pick2_no {l:List In}{e:Nat}{x:In}(h:¬e+1<=l.length):Vm.pick2 l e x=none:=by
 rcases Vm.snoc_of l with rfl|⟨pre,y,rfl⟩
 ·rfl
 ·rw[Vm.pick2_snoc,if_neg (by rw[List.length_append]at h;simp at h;omega)]
theorem pick3_no {l:List In}{e nx:Nat}{x:In}(h:¬e+2<=l.length):Vm.pick3 l e nx x=none:=by
 cases hq:Vm.pick3 l e nx x with
 | none=>rfl
 | some W =>
  obtain⟨pre,y,z,rfl,h1,-⟩:=Vm.pick3_some hq
  rw[List.length_append]at h
  simp at h
  omega
theorem add_all {o:O}(hA:Vm.Al (Vm.nu o)) {n lb eb nx e:Nat}(hnx:nx<=4000) (hG:1<n):∀ g,g<=20000->∀(w:World) (l:List In) (x:In) (v:Value),Ld w n lb eb nx e l v->Mk8 w->n<=w.heap.size->Vm.Pre o g e l x->Calls Tryz.prog 83 #[.pointer (some ⟨lb,0,none⟩),iA x] w (AddP w n lb eb nx e (Vm.addF g e nx l x) v):=by
 intro g
 induction g with
 | zero=>intro _ w l x v _ _ _ hp;have:=hp.hg;omega
 | succ g ih =>
 intro hg2 w l x v hld hm hn hp
 have IH:=zh (ih (by omega))
 clear ih
 obtain⟨i1,hi,hz0,hz1,hz2⟩:=info_parts Tryz.infoInst8
 obtain⟨ca,cc,rfl⟩:=zy hld.cr
 have HP:=zh hp
 obtain⟨res,hres⟩:∃ res,res=Vm.addF (g+1) e nx l x:=⟨_,rfl⟩
 rw[<-hres]
 have HR0:Hid (Vm.pick2 l e x=none->Vm.pick3 l e nx x=none->res=l++[x]):=fun h2 h3=>hres.trans (Vm.addF_stay h2 h3)
 have HR2:Hid (∀ pre y W',l=pre++[y]->e<=pre.length->Vm.two y x=some W'->res=W'.foldl (Vm.addF g e nx) pre):=fun pre y W' h1 h2 h3=>by rw[hres,h1];exact Vm.addF_two h2 h3
 have HR3:Hid (∀ pre y z W',l=pre++[y,z]->e<=pre.length->Vm.two z x=none->Vm.three nx y z x=some W'->res=W'.foldl (Vm.addF g e nx) pre):=fun pre y z W' h1 h2 h3 h4=>by rw[hres,h1];exact Vm.addF_three h2 h3 h4
 clear hres
 have hln:l.length<=20000:=by have:=Vm.len_wts l;have:=hp.hg;omega
 obtain⟨ln,hlnq⟩:∃ ln,ln=l.length:=⟨_,rfl⟩
 have HLN:Hid (ln=l.length):=hlnq
 obtain⟨xb,hxb⟩:∃ xb,xb=w.heap.size:=⟨_,rfl⟩
 obtain⟨w1,hw1⟩:∃ w1,w1=w.alloc (.cells #[.int .i64 x.op,.int .i64 x.a,.int .i64 x.b] 68):=⟨_,rfl⟩
 have hb1:Below w.heap.size w w1:=by rw[hw1];exact zb _ _
 have hkx:w1.heap[xb]?=some (.cells #[.int .i64 x.op,.int .i64 x.a,.int .i64 x.b] 68 (0,0)):=by rw[hw1,hxb];exact zw _ _
 have h1:=hld.on hb1
 have HL1:=zh h1
 have HK1:Hid (Kpt w w1 lb nilS (.slice ca l.length cc) (.slice ca l.length cc)):=(Kpt.refl w lb nilS _).on hb1
 have HMK:=zh (fun W (hb:Below n w W)=>hm.below hb hG)
 have HKB:Hid (∀ W cv',Kpt w W lb nilS (.slice ca l.length cc) cv'->Below n w W):=fun W cv' k=>k.below hn hld.nl (fun g q=>by cases q) fun g q=>zG hld.cr g q
 have hcd:w1.ownsRow n 68 3 (.slice ca ln cc) ln (cellsOf inC l):=by rw[hlnq];exact h1.cr
 have hobk:w1.heap[lb]?=some (.cells #[.slice ca ln cc,.int .i64 (nx:Int),freeV lb eb] 144 (0,0)):=by rw[hlnq];exact h1.lk
 have k0:w1.cell? ⟨lb,0,none⟩=some (.slice ca ln cc):=(zc hobk).trans rfl
 have x0:w1.cell? ⟨xb,0,none⟩=some (.int .i64 x.op):=(zc hkx).trans rfl
 have x1:w1.cell? ⟨xb,1,none⟩=some (.int .i64 x.a):=(zc hkx).trans rfl
 have x2:w1.cell? ⟨xb,2,none⟩=some (.int .i64 x.b):=(zc hkx).trans rfl
 have hlo:=zk hobk
 have hlx:=zk hkx
 have k0a:∀ ob,(w1.alloc ob).cell? ⟨lb,0,none⟩=some (.slice ca ln cc):=fun ob=>(World.cell?_of_block (w:=w1) (Below.heap_alloc _ _ _ hlo)).trans k0
 have HOW:Hid (∀ ob,(w1.alloc ob).ownsRow n 68 3 (.slice ca ln cc) ln (cellsOf inC l)):=fun ob=>z7 hcd (fun b _ hl _=>Below.heap_alloc _ _ _ hl)
 have HOB:=zh hobk
 have HNB:Hid ((Value.slice ca ln cc).ownBlock≠some lb):=zJ hcd hobk (by decide)
 have HN1:Hid (n<=w1.heap.size):=Nat.le_trans hn hb1.size
 have HFIN:Hid (∀(w3:World) (v3:Value),w3.os=w1.os->w3.tape=w1.tape->w3.output=w1.output->w1.heap.size<=w3.heap.size->(∀ b,b<w1.heap.size->(Value.slice ca ln cc).ownBlock≠some b->w3.heap[b]?=w1.heap[b]?)->w3.ownsRow n 68 3 v3 (ln+1) (cellsOf inC l++[.int .i64 x.op,.int .i64 x.a,.int .i64 x.b])->(∀ g,v3.ownBlock=some g->(Value.slice ca ln cc).ownBlock=some g\/w1.heap.size<=g)->LdQ w n lb eb nx e (l++[x]) (.slice ca l.length cc) (w3.setCell ⟨lb,0,none⟩ v3)):=fun w3 v3 o1 o2 o3 o4 hbk r1 r3=>by
  rw[hlnq]at hbk r3
  obtain⟨a,b⟩:=h1.row (cs':=l++[x]) (v':=v3) o1 o2 o3 o4 hbk (by rw[jM,uk,List.length_append,<-hlnq];exact r1) r3
  exact⟨v3,a,HK1.out.trans b⟩
 generalize hss:cellsOf inC l=ss at *
 obtain⟨op,xa,xbb⟩:=x
 unfold iA
 clear hld h1 hm hb1 hobk hcd hkx hp hn hss hlnq
 go_enter Tryz.func83,Tryz.ntmps83
 go_upto_region 1 with fail
 rw[<-hw1,<-hxb]
 clear hw1 hxb
 go_cut [] (fun wc=>LdQ w n lb eb nx e (l++[⟨op,xa,xbb⟩]) (.slice ca l.length cc) wc)
 case first =>
  go_region_law (first|(refine yv rfl (.tmp 14) (.tmp 16) 38 rfl n 68 i1 (.agg #[.int .i64 0,.int .i64 0,.int .i64 0]) 3 24 Tryz.underlying38 hi hz0 hz1 hz2 rfl (by decide) (.slice ca ln cc) ln ss (by simp[Act.eval]) ?hown ⟨w1.heap.size,0,none⟩ 1 1 [.int .i64 op,.int .i64 xa,.int .i64 xbb] (by simp[Act.eval]) rfl ?news (by intro u hu;simp at hu;rcases hu with rfl|rfl|rfl <;> rfl) (by unfold maxLen;have:=HLN.out;omega) (by have:=HLN.out;omega) ?base ?_;(case hown=>exact HOW.out _);(case news=>(intro j u hj;rw[Addr.add_lit];first|exact((zc (zw w1 _)).trans (by simpa using hj))|exact((zc (zw w1.drew _)).trans (by simpa using hj))));(case base=>have:=HN1.out;simp;omega);intro v3' w3 q1 q2 q3;obtain⟨a3,c3,hv3⟩:=zy q1;subst hv3;have e3:w3.heap[lb]?=some (.cells #[.slice ca ln cc,.int .i64 (nx:Int),freeV lb eb] 144 (0,0)):=(q2.block lb (by simp;omega) (fun e=>HNB.out e.symm)).trans ((Below.heap_alloc w1 _ lb hlo).trans HOB.out);have m3:w3.cell? ⟨lb,0,none⟩=some (.slice ca ln cc):=(zc e3).trans rfl;have z3:w3.frozen? ⟨lb,0,none⟩=false:=zr e3;have hl3:lb<w3.heap.size:=zk e3;have HF:=zh (HFIN.out w3 _ q2.os q2.tape q2.output (by have:=q2.size;simp at this;omega) (fun b hb hne=>(q2.block b (by simp;omega) (fun e=>hne e.symm)).trans (Below.heap_alloc w1 _ b hb)) q1 (fun g hg=>(q3 g hg).elim Or.inl (fun z=>Or.inr (by simp at z;omega))));clear q1 q2 q3 e3))
  all_goals
   go_wp2_with fail
   go_meet
   case rel=>exact HF.out
 case rest =>
  obtain⟨v1,hl1,hk1⟩:=hcut
  have hcl:(l++[(⟨op,xa,xbb⟩:In)]).length=ln+1:=by rw[List.length_append,<-HLN.out];rfl
  obtain⟨g0,cap1,cur1,rfl,-,-,-,-⟩:=yQ hl1.cr (by rw[hcl];omega)
  have HI0:Hid (Ld wc n lb eb nx e (l++[⟨op,xa,xbb⟩]) (.slice (some ⟨g0,0,none⟩) (l++[(⟨op,xa,xbb⟩:In)]).length cap1)/\Kpt w wc lb nilS (.slice ca l.length cc) (.slice (some ⟨g0,0,none⟩) (l++[(⟨op,xa,xbb⟩:In)]).length cap1)):=⟨hl1,hk1⟩
  have hln2:(ln:Int)<=20000:=by have:=HLN.out;omega
  have hele:e<=ln:=by have:=HP.out.he;have:=HLN.out;omega
  clear hl1 hk1 HFIN HOW HOB HNB HN1 HL1 HK1 x0 x1 x2 k0 k0a hlo hlx
  go_wp2_with fail
  go_loopg [4] 2 (fun kk vi wr=>Hid (Ld wr n lb eb nx e (l++[⟨op,xa,xbb⟩]) (.slice (some ⟨g0,0,none⟩) (l++[(⟨op,xa,xbb⟩:In)]).length cap1)/\Kpt w wr lb nilS (.slice ca l.length cc) (.slice (some ⟨g0,0,none⟩) (l++[(⟨op,xa,xbb⟩:In)]).length cap1))/\((kk=2/\vi=.int .i64 2)\/(kk=1/\vi=.int .i64 3/\Hid (Vm.pick2 l e ⟨op,xa,xbb⟩=none))\/(kk=0/\vi=.int .i64 4/\Hid (Vm.pick2 l e ⟨op,xa,xbb⟩=none)/\Hid (Vm.pick3 l e nx ⟨op,xa,xbb⟩=none))))
  case atStart=>exact⟨HI0,Or.inl ⟨rfl,rfl⟩⟩
  case round =>
   clear HI0
   obtain⟨HI,hcs⟩:=hrel
   have hl1:=HI.out.1
   have hk1:=HI.out.2
   obtain⟨g1,cap2,cur1,hgq,hg0,hgb,hcap,hgc⟩:=yQ hl1.cr (by rw[hcl];omega)
   have hgq1:g1=g0:=by injection hgq with q;injection q with q;injection q with q;exact q.symm
   have hgq2:cap2=cap1:=by injection hgq with _ _ q;exact q.symm
   subst hgq1 hgq2
   rw[hcl]at hcap
   have hlk:=hl1.lk
   rw[hcl]at hlk
   have y0:wr.cell? ⟨lb,0,none⟩=some (.slice (some ⟨g1,0,none⟩) (ln+1) cap2):=(zc hlk).trans rfl
   have y1:wr.cell? ⟨lb,1,none⟩=some (.int .i64 (nx:Int)):=(zc hlk).trans rfl
   have y2:wr.cell? ⟨lb,2,none⟩=some (freeV lb eb):=(zc hlk).trans rfl
   have y3:wr.cell? ⟨eb,0,none⟩=some (.int .i64 (e:Int)):=(zc hl1.ek).trans rfl
   have hyl:=zk hlk
   have hye:=zk hl1.ek
   have hygl:=zk hgb
   have hyf:∀ j,wr.frozen? ⟨lb,j,none⟩=false:=fun j=>zr hlk
   have HCS:Hid (∀ i z,(l++[(⟨op,xa,xbb⟩:In)])[i]?=some z->wr.cell? ⟨g1,i * 3,none⟩=some (.int .i64 z.op)/\wr.cell? ⟨g1,i * 3+1,none⟩=some (.int .i64 z.a)/\wr.cell? ⟨g1,i * 3+2,none⟩=some (.int .i64 z.b)):=fun i z hz=>by
    have hi:=(List.getElem?_eq_some_iff.1 hz).1
    obtain⟨a,b,c⟩:=jc hz
    exact⟨(hgc _ (by omega)).trans a,(hgc _ (by omega)).trans b,(hgc _ (by omega)).trans c⟩
   have HM1:Hid (Mk8 wr):=HMK.out _ (HKB.out _ _ hk1)
   have hcap':(ln:Int)+1<=cap2:=by omega
   have HFR:Hid (∀ nn:Nat,nn<=3->Calls Tryz.prog 81 #[.int .i64 (nn:Int),.pointer (some ⟨lb,0,none⟩),.pointer (some ⟨eb,0,none⟩)] wr fun ed w'=>ed=.returned (.bool (decide ((e:Int)<=((ln+1:Nat):Int) - (nn:Int))))/\w'=wr):=fun nn h=>free_any y0 y3 (by have:=HLN.out;omega) h
   unfold freeV at y2
   have HST:Hid (Vm.pick2 l e ⟨op,xa,xbb⟩=none->Vm.pick3 l e nx ⟨op,xa,xbb⟩=none->LdQ w n lb eb nx e res (.slice ca l.length cc) wr):=fun h2 h3=>by rw[HR0.out h2 h3];exact⟨_,HI.out.1,HI.out.2⟩
   clear hl1 hk1 hlk hgb hgc hgq
   rcases hcs with⟨rfl,rfl⟩|⟨rfl,rfl,h2⟩|⟨rfl,rfl,h2,h3⟩
   ·by_cases hf:e+1<=ln
    ·have hd:decide ((e:Int)<=((ln+1:Nat):Int) - ((2:Nat):Int))=true:=decide_eq_true (by omega)
     have HF2:=zh (HFR.out 2 (by omega))
     rw[hd]at HF2
     obtain⟨pre,y,hlq⟩:∃ pre y,l=pre++[y]:=by
      rcases Vm.snoc_of l with q|q
      ·exfalso
       have:=HLN.out
       rw[q]at this
       simp at this
       omega
      ·exact q
     obtain⟨k,hk⟩:∃ k,k=pre.length:=⟨_,rfl⟩
     have hlk2:ln=k+1:=by rw[HLN.out,hlq,hk];simp
     have i0:(l++[(⟨op,xa,xbb⟩:In)])[k]?=some y:=by rw[hlq,hk];simp
     have i1':(l++[(⟨op,xa,xbb⟩:In)])[k+1]?=some ⟨op,xa,xbb⟩:=by rw[hlq,hk];simp
     obtain⟨c0,c1,c2⟩:=HCS.out _ _ i0
     obtain⟨c3,c4,c5⟩:=HCS.out _ _ i1'
     rw[show (k+1) * 3=k * 3+3 by omega]at c3 c4 c5
     have e2:ln+1=k+2:=by omega
     rw[e2]at y0
     have hp2:Vm.pick2 l e ⟨op,xa,xbb⟩=Vm.two y ⟨op,xa,xbb⟩:=by rw[hlq,Vm.pick2_snoc,if_pos (by omega)]
     have hyl':y∈l:=by rw[hlq];simp
     have qy:=HP.out.ql y hyl'
     have HSH:Hid (∀ P L C:Nat,P=k * 3->L=2->C=cap2 - k->Calls Tryz.prog 119 #[.slice (some ⟨g1,P,none⟩) L C,.int .i64 (nx:Int)] wr.drew (ByP wr.drew (Vm.two y ⟨op,xa,xbb⟩))):=fun P L C h1 h2 h3=>by rw[h1,h2,h3];exact xY (w:=wr.drew) (nx:=nx) (g:=g1) (off:=k * 3) (cap:=cap2 - k) (x:=y) (y:=⟨op,xa,xbb⟩) (HM1.out.on (zt wr)) HP.out.hx.i (vq qy) (vq HP.out.qx) c0 c1 c2 c3 c4 c5 (by omega)
     have HS:Hid (∀ W,Below wr.heap.size wr W->W.cell? ⟨lb,0,none⟩=some (.slice (some ⟨g1,0,none⟩) (k+2) cap2)/\W.cell? ⟨lb,1,none⟩=some (.int .i64 (nx:Int))):=fun W hb=>⟨zv hb y0,zv hb y1⟩
     have HS0:=zh (HS.out _ (zt wr))
     have hkc:(k:Int)+2<=cap2:=by omega
     have hk2:(k:Int)<=(k:Int)+2:=by omega
     have HSP:Hid (l=pre++[y]/\k=pre.length/\ln=k+1):=⟨hlq,hk,hlk2⟩
     have hk3:(k:Int)+2<=20010:=by have:=HLN.out;omega
     have hck:¬cap2=k:=by omega
     obtain⟨rr,hr⟩:∃ rr,rr=Vm.two y ⟨op,xa,xbb⟩:=⟨_,rfl⟩
     rw[<-hr]at HSH
     have HRR:Hid (Vm.pick2 l e ⟨op,xa,xbb⟩=rr):=hp2.trans hr.symm
     have HRQ:=zh hr
     have HCL:=zh hcl
     clear hlq hk hlk2 e2 hcl HST HFR hd HCS HM1 c0 c1 c2 c3 c4 c5 i0 i1' qy hyl' hr hp2
     go_wp2_with fail
     refine HF2.out.mono ?_
     rintro e' w' ⟨rfl,hww⟩
     rw[hww]
     clear hww w'
     go_upto_region 6 with fail
     go_cut [6,7] (fun s6 s7 wc=>∃ vv ok,s6=vv/\s7=.bool ok/\Hid (Below wr.heap.size wr wc/\(∀ W',rr=some W'->ok=true/\wc.ownsRow wr.heap.size 68 3 vv W'.length (cellsOf inC W'))/\(rr=none->ok=false)))
     case first =>
      go_region_held3 (fun W=>W.cell? ⟨lb,0,none⟩=some (.slice (some ⟨g1,0,none⟩) (k+2) cap2)/\W.cell? ⟨lb,1,none⟩=some (.int .i64 (nx:Int))) (first|exact HS0.out|exact HS.out _ HB.out) (first|(go_at_call 119;refine(HSH.out _ _ _ (by omega) (by omega) (by omega)).mono ?_;intro e4 w4 hq;obtain⟨vv,ok,rfl,hb2,h3',h4'⟩:=hq;have HB:Hid (Below wr.heap.size wr w4):=(zt wr).trans hb2;have HBY:Hid ((∀ W',rr=some W'->ok=true/\w4.ownsRow wr.heap.size 68 3 vv W'.length (cellsOf inC W'))/\(rr=none->ok=false)):=⟨h3',h4'⟩;clear hb2 HSH h3' h4'))
      go_wp2_with fail
      go_meet
      case rel=>exact⟨_,_,rfl,rfl,HB.out,HBY.out.1,HBY.out.2⟩
     case rest =>
      obtain⟨vv,ok,rfl,rfl,HC⟩:=hcut
      clear HSH HS HS0 HF2
      have hyl0:n<=wr.heap.size:=by have h7:=HI.out.1.nl;have h8:=zk HI.out.1.lk;omega
      cases rr with
      | none =>
       obtain rfl:=HC.out.2.2 rfl
       have HB:=zh HC.out.1
       go_wp2_with fail
       go_roundg 1
       case measure=>omega
       case rel=>exact⟨⟨HI.out.1.on HB.out,HI.out.2.on HB.out⟩,Or.inr (Or.inl ⟨rfl,rfl,HRR⟩)⟩
      | some W' =>
       obtain⟨rfl,hrow⟩:=HC.out.2.1 W' rfl
       obtain⟨ba,bc,rfl⟩:=zy hrow
       obtain⟨hl3,hk4,hln3⟩:=HSP.out
       have hyl:y∈l:=by rw[hl3];simp
       have hpl:∀ q∈pre,q∈l:=fun q hq=>by rw[hl3];simp[hq]
       obtain⟨-,hby⟩:=Vm.two_win (nx:=none) (HP.out.hl y hyl) HP.out.hx HRQ.out.symm
       have hfd:Vm.Fd o g e nx W' pre:=Vm.fd_ok hA W' pre (by omega) (fun q hq=>HP.out.hl q (hpl q hq)) (Vm.Irr.pre (l:=pre) (r:=[y]) (by rw[<-hl3];exact HP.out.hi)) (fun q hq=>HP.out.ql q (hpl q hq)) hby.ok (Vm.two_qi HP.out.qx HRQ.out.symm) (by
        have h1:=HP.out.hg
        have h2:=hby.wt
        rw[hl3,Vm.wts_app,Vm.wts1]at h1
        rw[Vm.wts2]at h2
        omega)
       have HRES:Hid (res=W'.foldl (Vm.addF g e nx) pre):=HR2.out pre y W' hl3 (by omega) HRQ.out.symm
       have htk:(l++[(⟨op,xa,xbb⟩:In)]).take k=pre:=by rw[hl3,hk4];simp
       have hld4:=HI.out.1.on HC.out.1
       have hkp4:=HI.out.2.on HC.out.1
       have hlk4:=hld4.lk
       have hcl4:(l++[(⟨op,xa,xbb⟩:In)]).length=k+2:=by have:=HCL.out;omega
       rw[hcl4]at hlk4
       have z0:wc.cell? ⟨lb,0,none⟩=some (.slice (some ⟨g1,0,none⟩) (k+2) cap2):=(zc hlk4).trans rfl
       have zf:∀ j,wc.frozen? ⟨lb,j,none⟩=false:=fun j=>zr hlk4
       have zl:=zk hlk4
       obtain⟨w5,hw5⟩:∃ w5,w5=wc.setCell ⟨lb,0,none⟩ (.slice (some ⟨g1,0,none⟩) k cap2):=⟨_,rfl⟩
       obtain⟨hA5,hB5⟩:=hld4.less (k:=k) (by omega)
       rw[htk,<-hw5]at hA5
       rw[<-hw5]at hB5
       have hbl:(Value.slice ba W'.length bc).ownBlock≠some lb:=zJ hrow hld4.lk (by decide)
       have hr5:w5.ownsRow n 68 3 (.slice ba W'.length bc) W'.length (cellsOf inC W'):=by
        refine yr (z7 hrow fun b _ _ hb=>?_) (by
         have h7:=HKB.out _ _ HI.out.2
         have h8:=hA5.nl
         have h9:=hyl0
         omega)
        rw[hw5]
        exact Below.heap_setCell _ _ _ _ (fun q:b=lb=>hbl (q ▸ hb))
       have HFI0:Hid (FoI g e nx n lb eb w (.slice ca l.length cc) (.slice ba W'.length bc) W' pre w5 0):=⟨_,hA5,hkp4.trans hB5,hr5,fun bg q r=>by
        have h10:=zG hrow bg q
        have h11:bg=g1:=by cases r;rfl
        omega⟩
       have HFD:=zh hfd
       obtain⟨wn,hwn⟩:∃ wn,wn=W'.length:=⟨_,rfl⟩
       have HWN:Hid (wn=W'.length):=hwn
       have hwm:(wn:Int)<=9223372036854775807:=by
        have h14:=xE hr5
        unfold maxLen at h14
        omega
       have hck0:¬cap2=0:=by omega
       have hkk:(k:Int)<=cap2:=by omega
       rw[<-hwn]at HFI0 ⊢
       clear hrow hl3 hk4 hln3 hyl hpl hfd htk hld4 hkp4 hlk4 hcl4 hA5 hB5 hbl hr5 hwn HC hby hyl0
       go_upto_region 9 with fail
       rw[<-hw5]
       clear hw5 z0 zf zl
       go_wp2_with fail
       go_loopg [65] wn (fun kq vi wz=>∃ j:Nat,j<=wn/\kq=wn - j/\vi=.int .i64 (j:Int)/\Hid (FoI g e nx n lb eb w (.slice ca l.length cc) (.slice ba wn bc) W' pre wz j))
       case atStart=>exact⟨0,by omega,by omega,rfl,HFI0⟩
       case round =>
        clear HFI0
        obtain⟨j,hjd,hjk,rfl,HJ⟩:=hrel
        obtain⟨v',j1,j2,j3,j4⟩:=HJ.out
        by_cases hjt:j<wn
        ·have hjt':(j:Int)<(wn:Int):=by omega
         obtain⟨yy,hyy⟩:∃ yy,W'[j]?=some yy:=⟨_,List.getElem?_eq_getElem (by rw[<-HWN.out];exact hjt)⟩
         obtain⟨bg,bcap,bcur,hbq,hbn,hbb,hbc,hbx⟩:=yQ j3 (by rw[<-HWN.out];omega)
         have hba:ba=some ⟨bg,0,none⟩:=by injection hbq
         have hbw:bc=bcap:=by injection hbq
         subst hba hbw
         rw[<-HWN.out]at hbc
         obtain⟨d0,d1,d2⟩:=jc hyy
         have hjl:=(List.getElem?_eq_some_iff.1 hyy).1
         have b0:=(hbx (j * 3) (by omega)).trans d0
         have b1:=(hbx (j * 3+1) (by omega)).trans d1
         have b2:=(hbx (j * 3+2) (by omega)).trans d2
         have hbl:=zk hbb
         have hbi:(wn:Int)<=bc:=by omega
         obtain⟨w6,hw6⟩:∃ w6,w6=wr.alloc (.cells #[.int .i64 yy.op,.int .i64 yy.a,.int .i64 yy.b] 68):=⟨_,rfl⟩
         have hb6:Below wr.heap.size wr w6:=by rw[hw6];exact zb _ _
         have hx6:w6.heap[wr.heap.size]?=some (.cells #[.int .i64 yy.op,.int .i64 yy.a,.int .i64 yy.b] 68 (0,0)):=by rw[hw6];exact zw _ _
         have hkb6:=HKB.out _ _ (j2.on hb6)
         have HA6:=zh (IH.out w6 _ yy v' (j1.on hb6) (HMK.out _ hkb6) (by have h12:=j1.nl;have h13:=zk j1.lk;have h14:=hb6.size;omega) (Vm.fd_at W' pre j yy HFD.out hyy))
         have HNX:Hid (∀ w7,LdQ w6 n lb eb nx e (Vm.addF g e nx ((W'.take j).foldl (Vm.addF g e nx) pre) yy) v' w7->FoI g e nx n lb eb w (.slice ca l.length cc) (.slice (some ⟨bg,0,none⟩) wn bc) W' pre w7 (j+1)):=fun w7 hq=>by
          obtain⟨v7,p1,p2⟩:=hq
          refine⟨v7,?_,(j2.on hb6).trans p2,z7 (zD j3 hb6) fun b _ hb hq=>?_,fun b hq hr=>?_⟩
          ·rw[Vm.fold_next hyy];exact p1
          ·have hbb':b=bg:=by cases hq;rfl
           subst hbb'
           exact p2.block _ hb (fun q=>zJ j3 j1.lk (by decide) (by rw[<-q];rfl)) (fun q=>by cases q) (j4 _ rfl)
          ·have hbb':b=bg:=by cases hq;rfl
           subst hbb'
           rcases p2.lies _ hr with q|q
           ·exact j4 _ rfl q
           ·have:=hb6.size;omega
         generalize Vm.addF g e nx ((W'.take j).foldl (Vm.addF g e nx) pre) yy=nl at *
         obtain⟨yo,ya,yb⟩:=yy
         unfold iA at HA6
         obtain⟨e0,e1,e2,e3,-⟩:=in3 hx6
         clear j1 j2 j3 j4 HJ hyy hbq hbb hbx d0 d1 d2 hjl hb6 hx6 hkb6
         go_upto_region 12 with fail
         rw[<-hw6]
         clear hw6 b0 b1 b2
         go_wp2_with fail
         refine HA6.out.mono ?_
         rintro e7 w7 ⟨rfl,hq7⟩
         have HN7:=zh (HNX.out w7 hq7)
         clear hq7 HNX HA6
         go_wp2_with fail
         go_roundg (wn - (j+1))
         case measure=>omega
         case rel=>exact⟨j+1,by omega,rfl,by go_num,HN7⟩
        ·have hjt':¬(j:Int)<(wn:Int):=by omega
         have hje:j=wn:=by omega
         subst hje
         have HFIN:Hid (LdQ w n lb eb nx e res (.slice ca l.length cc) wr):=by
          refine⟨v',?_,j2⟩
          rw[HRES.out]
          have:=j1
          rw[HWN.out,List.take_length]at this
          exact this
         clear j1 j2 j3 j4 HJ
         go_wp2_with fail
         try simp only [Exit.inBlock,Exit.then]
         first|exact ze rfl rfl ⟨rfl,HFIN.out⟩|exact bodyPost_ret (v:=.tuple #[]) (by simp[results,Tryz.results83,go_sem]) rfl ⟨rfl,HFIN.out⟩
    ·have hd:decide ((e:Int)<=((ln+1:Nat):Int) - ((2:Nat):Int))=false:=decide_eq_false (by omega)
     have HF2:=zh (HFR.out 2 (by omega))
     rw[hd]at HF2
     have HQ:=zh (HST.out (pick2_no (by rw[<-HLN.out];exact hf)) (pick3_no (by rw[<-HLN.out];omega)))
     clear HST HFR hd HCS HM1 HI
     go_wp2_with fail
     refine HF2.out.mono ?_
     rintro e' _ ⟨rfl,rfl⟩
     go_wp2_with fail
     exact ze rfl rfl ⟨rfl,HQ.out⟩
   ·by_cases hf:e+2<=ln
    ·have hd:decide ((e:Int)<=((ln+1:Nat):Int) - ((3:Nat):Int))=true:=decide_eq_true (by omega)
     have HF2:=zh (HFR.out 3 (by omega))
     rw[hd]at HF2
     obtain⟨pre,y,z,hlq⟩:∃ pre y z,l=pre++[y,z]:=by
      rcases Vm.snoc_of l with q|⟨l2,z,q⟩
      ·exfalso
       have:=HLN.out
       rw[q]at this
       simp at this
       omega
      ·rcases Vm.snoc_of l2 with r|⟨pre,y,r⟩
       ·exfalso
        have:=HLN.out
        rw[q,r]at this
        simp at this
        omega
       ·exact⟨pre,y,z,by rw[q,r];simp⟩
     obtain⟨k,hk⟩:∃ k,k=pre.length:=⟨_,rfl⟩
     have hlk2:ln=k+2:=by rw[HLN.out,hlq,hk];simp
     have i0:(l++[(⟨op,xa,xbb⟩:In)])[k]?=some y:=by rw[hlq,hk];simp
     have i1':(l++[(⟨op,xa,xbb⟩:In)])[k+1]?=some z:=by rw[hlq,hk];simp
     have i2':(l++[(⟨op,xa,xbb⟩:In)])[k+2]?=some ⟨op,xa,xbb⟩:=by rw[hlq,hk];simp
     obtain⟨c0,c1,c2⟩:=HCS.out _ _ i0
     obtain⟨c3,c4,c5⟩:=HCS.out _ _ i1'
     obtain⟨c6,c7,c8⟩:=HCS.out _ _ i2'
     rw[show (k+1) * 3=k * 3+3 by omega]at c3 c4 c5
     rw[show (k+2) * 3=k * 3+6 by omega]at c6 c7 c8
     have e2:ln+1=k+3:=by omega
     rw[e2]at y0
     have hp3:Vm.pick3 l e nx ⟨op,xa,xbb⟩=Vm.three nx y z ⟨op,xa,xbb⟩:=by rw[hlq,Vm.pick3_snoc,if_pos (by omega)]
     have hyl':y∈l:=by rw[hlq];simp
     have hzl':z∈l:=by rw[hlq];simp
     have qy:=HP.out.ql y hyl'
     have HSH:Hid (∀ P L C:Nat,P=k * 3->L=3->C=cap2 - k->Calls Tryz.prog 119 #[.slice (some ⟨g1,P,none⟩) L C,.int .i64 (nx:Int)] wr.drew (ByP wr.drew (Vm.three nx y z ⟨op,xa,xbb⟩))):=fun P L C h1 h2 h3=>by rw[h1,h2,h3];exact xX (w:=wr.drew) (nx:=nx) (g:=g1) (off:=k * 3) (cap:=cap2 - k) (x:=y) (y:=z) (z:=⟨op,xa,xbb⟩) (HM1.out.on (zt wr)) (HP.out.hl y hyl').i (HP.out.hl z hzl').i (by omega) (vq qy) (vq HP.out.qx) c0 c1 c2 c3 c4 c5 c6 c7 c8 (by omega)
     have HS:Hid (∀ W,Below wr.heap.size wr W->W.cell? ⟨lb,0,none⟩=some (.slice (some ⟨g1,0,none⟩) (k+3) cap2)/\W.cell? ⟨lb,1,none⟩=some (.int .i64 (nx:Int))):=fun W hb=>⟨zv hb y0,zv hb y1⟩
     have HS0:=zh (HS.out _ (zt wr))
     have hkc:(k:Int)+3<=cap2:=by omega
     have hk2:(k:Int)<=(k:Int)+3:=by omega
     have HSP:Hid (l=pre++[y,z]/\k=pre.length/\ln=k+2):=⟨hlq,hk,hlk2⟩
     have hk3:(k:Int)+3<=20010:=by have:=HLN.out;omega
     have hck:¬cap2=k:=by omega
     obtain⟨rr,hr⟩:∃ rr,rr=Vm.three nx y z ⟨op,xa,xbb⟩:=⟨_,rfl⟩
     rw[<-hr]at HSH
     have HRR:Hid (Vm.pick3 l e nx ⟨op,xa,xbb⟩=rr):=hp3.trans hr.symm
     have HRQ:=zh hr
     have HCL:=zh hcl
     clear hlq hk hlk2 e2 hcl HST HFR hd HCS HM1 c0 c1 c2 c3 c4 c5 c6 c7 c8 i0 i1' i2' qy hyl' hzl' hr hp3
     go_wp2_with fail
     refine HF2.out.mono ?_
     rintro e' w' ⟨rfl,hww⟩
     rw[hww]
     clear hww w'
     go_upto_region 6 with fail
     go_cut [6,7] (fun s6 s7 wc=>∃ vv ok,s6=vv/\s7=.bool ok/\Hid (Below wr.heap.size wr wc/\(∀ W',rr=some W'->ok=true/\wc.ownsRow wr.heap.size 68 3 vv W'.length (cellsOf inC W'))/\(rr=none->ok=false)))
     case first =>
      go_region_held3 (fun W=>W.cell? ⟨lb,0,none⟩=some (.slice (some ⟨g1,0,none⟩) (k+3) cap2)/\W.cell? ⟨lb,1,none⟩=some (.int .i64 (nx:Int))) (first|exact HS0.out|exact HS.out _ HB.out) (first|(go_at_call 119;refine(HSH.out _ _ _ (by omega) (by omega) (by omega)).mono ?_;intro e4 w4 hq;obtain⟨vv,ok,rfl,hb2,h3',h4'⟩:=hq;have HB:Hid (Below wr.heap.size wr w4):=(zt wr).trans hb2;have HBY:Hid ((∀ W',rr=some W'->ok=true/\w4.ownsRow wr.heap.size 68 3 vv W'.length (cellsOf inC W'))/\(rr=none->ok=false)):=⟨h3',h4'⟩;clear hb2 HSH h3' h4'))
      go_wp2_with fail
      go_meet
      case rel=>exact⟨_,_,rfl,rfl,HB.out,HBY.out.1,HBY.out.2⟩
     case rest =>
      obtain⟨vv,ok,rfl,rfl,HC⟩:=hcut
      clear HSH HS HS0 HF2
      have hyl0:n<=wr.heap.size:=by have h7:=HI.out.1.nl;have h8:=zk HI.out.1.lk;omega
      cases rr with
      | none =>
       obtain rfl:=HC.out.2.2 rfl
       have HB:=zh HC.out.1
       go_wp2_with fail
       go_roundg 0
       case measure=>omega
       case rel=>exact⟨⟨HI.out.1.on HB.out,HI.out.2.on HB.out⟩,Or.inr (Or.inr ⟨rfl,rfl,h2,HRR⟩)⟩
      | some W' =>
       obtain⟨rfl,hrow⟩:=HC.out.2.1 W' rfl
       obtain⟨ba,bc,rfl⟩:=zy hrow
       obtain⟨hl3,hk4,hln3⟩:=HSP.out
       have hyl:y∈l:=by rw[hl3];simp
       have hzl:z∈l:=by rw[hl3];simp
       have hpl:∀ q∈pre,q∈l:=fun q hq=>by rw[hl3];simp[hq]
       have hl4:l=(pre++[y])++[z]:=by rw[hl3];simp
       obtain⟨hwt,hok⟩:=Vm.three_wt (HP.out.hl y hyl) (HP.out.hl z hzl) HP.out.hx HRQ.out.symm
       have hfd:Vm.Fd o g e nx W' pre:=Vm.fd_ok hA W' pre (by omega) (fun q hq=>HP.out.hl q (hpl q hq)) (Vm.Irr.pre (l:=pre) (r:=[y,z]) (by rw[<-hl3];exact HP.out.hi)) (fun q hq=>HP.out.ql q (hpl q hq)) hok (Vm.three_qi (HP.out.ql y hyl) HP.out.qx HRQ.out.symm) (by
        have h1:=HP.out.hg
        have h5:Vm.wts [y,z,⟨op,xa,xbb⟩]=Vm.wt y+(Vm.wt z+Vm.wt ⟨op,xa,xbb⟩):=by simp[Vm.wts]
        rw[hl3,Vm.wts_app,Vm.wts2]at h1
        omega)
       have h2z:Vm.two z ⟨op,xa,xbb⟩=none:=by
        have h6:=h2.out
        rw[hl4,Vm.pick2_snoc,if_pos (by rw[List.length_append];simp;omega)]at h6
        exact h6
       have HRES:Hid (res=W'.foldl (Vm.addF g e nx) pre):=HR3.out pre y z W' hl3 (by omega) h2z HRQ.out.symm
       have htk:(l++[(⟨op,xa,xbb⟩:In)]).take k=pre:=by rw[hl3,hk4];simp
       have hld4:=HI.out.1.on HC.out.1
       have hkp4:=HI.out.2.on HC.out.1
       have hlk4:=hld4.lk
       have hcl4:(l++[(⟨op,xa,xbb⟩:In)]).length=k+3:=by have:=HCL.out;omega
       rw[hcl4]at hlk4
       have z0:wc.cell? ⟨lb,0,none⟩=some (.slice (some ⟨g1,0,none⟩) (k+3) cap2):=(zc hlk4).trans rfl
       have zf:∀ j,wc.frozen? ⟨lb,j,none⟩=false:=fun j=>zr hlk4
       have zl:=zk hlk4
       obtain⟨w5,hw5⟩:∃ w5,w5=wc.setCell ⟨lb,0,none⟩ (.slice (some ⟨g1,0,none⟩) k cap2):=⟨_,rfl⟩
       obtain⟨hA5,hB5⟩:=hld4.less (k:=k) (by omega)
       rw[htk,<-hw5]at hA5
       rw[<-hw5]at hB5
       have hbl:(Value.slice ba W'.length bc).ownBlock≠some lb:=zJ hrow hld4.lk (by decide)
       have hr5:w5.ownsRow n 68 3 (.slice ba W'.length bc) W'.length (cellsOf inC W'):=by
        refine yr (z7 hrow fun b _ _ hb=>?_) (by
         have h7:=HKB.out _ _ HI.out.2
         have h8:=hA5.nl
         have h9:=hyl0
         omega)
        rw[hw5]
        exact Below.heap_setCell _ _ _ _ (fun q:b=lb=>hbl (q ▸ hb))
       have HFI0:Hid (FoI g e nx n lb eb w (.slice ca l.length cc) (.slice ba W'.length bc) W' pre w5 0):=⟨_,hA5,hkp4.trans hB5,hr5,fun bg q r=>by
        have h10:=zG hrow bg q
        have h11:bg=g1:=by cases r;rfl
        omega⟩
       have HFD:=zh hfd
       obtain⟨wn,hwn⟩:∃ wn,wn=W'.length:=⟨_,rfl⟩
       have HWN:Hid (wn=W'.length):=hwn
       have hwm:(wn:Int)<=9223372036854775807:=by
        have h14:=xE hr5
        unfold maxLen at h14
        omega
       have hck0:¬cap2=0:=by omega
       have hkk:(k:Int)<=cap2:=by omega
       rw[<-hwn]at HFI0 ⊢
       clear hrow hl3 hk4 hln3 hyl hpl hfd htk hld4 hkp4 hlk4 hcl4 hA5 hB5 hbl hr5 hwn HC hzl hl4 hwt hok h2z hyl0
       go_upto_region 9 with fail
       rw[<-hw5]
       clear hw5 z0 zf zl
       go_wp2_with fail
       go_loopg [65] wn (fun kq vi wz=>∃ j:Nat,j<=wn/\kq=wn - j/\vi=.int .i64 (j:Int)/\Hid (FoI g e nx n lb eb w (.slice ca l.length cc) (.slice ba wn bc) W' pre wz j))
       case atStart=>exact⟨0,by omega,by omega,rfl,HFI0⟩
       case round =>
        clear HFI0
        obtain⟨j,hjd,hjk,rfl,HJ⟩:=hrel
        obtain⟨v',j1,j2,j3,j4⟩:=HJ.out
        by_cases hjt:j<wn
        ·have hjt':(j:Int)<(wn:Int):=by omega
         obtain⟨yy,hyy⟩:∃ yy,W'[j]?=some yy:=⟨_,List.getElem?_eq_getElem (by rw[<-HWN.out];exact hjt)⟩
         obtain⟨bg,bcap,bcur,hbq,hbn,hbb,hbc,hbx⟩:=yQ j3 (by rw[<-HWN.out];omega)
         have hba:ba=some ⟨bg,0,none⟩:=by injection hbq
         have hbw:bc=bcap:=by injection hbq
         subst hba hbw
         rw[<-HWN.out]at hbc
         obtain⟨d0,d1,d2⟩:=jc hyy
         have hjl:=(List.getElem?_eq_some_iff.1 hyy).1
         have b0:=(hbx (j * 3) (by omega)).trans d0
         have b1:=(hbx (j * 3+1) (by omega)).trans d1
         have b2:=(hbx (j * 3+2) (by omega)).trans d2
         have hbl:=zk hbb
         have hbi:(wn:Int)<=bc:=by omega
         obtain⟨w6,hw6⟩:∃ w6,w6=wr.alloc (.cells #[.int .i64 yy.op,.int .i64 yy.a,.int .i64 yy.b] 68):=⟨_,rfl⟩
         have hb6:Below wr.heap.size wr w6:=by rw[hw6];exact zb _ _
         have hx6:w6.heap[wr.heap.size]?=some (.cells #[.int .i64 yy.op,.int .i64 yy.a,.int .i64 yy.b] 68 (0,0)):=by rw[hw6];exact zw _ _
         have hkb6:=HKB.out _ _ (j2.on hb6)
         have HA6:=zh (IH.out w6 _ yy v' (j1.on hb6) (HMK.out _ hkb6) (by have h12:=j1.nl;have h13:=zk j1.lk;have h14:=hb6.size;omega) (Vm.fd_at W' pre j yy HFD.out hyy))
         have HNX:Hid (∀ w7,LdQ w6 n lb eb nx e (Vm.addF g e nx ((W'.take j).foldl (Vm.addF g e nx) pre) yy) v' w7->FoI g e nx n lb eb w (.slice ca l.length cc) (.slice (some ⟨bg,0,none⟩) wn bc) W' pre w7 (j+1)):=fun w7 hq=>by
          obtain⟨v7,p1,p2⟩:=hq
          refine⟨v7,?_,(j2.on hb6).trans p2,z7 (zD j3 hb6) fun b _ hb hq=>?_,fun b hq hr=>?_⟩
          ·rw[Vm.fold_next hyy];exact p1
          ·have hbb':b=bg:=by cases hq;rfl
           subst hbb'
           exact p2.block _ hb (fun q=>zJ j3 j1.lk (by decide) (by rw[<-q];rfl)) (fun q=>by cases q) (j4 _ rfl)
          ·have hbb':b=bg:=by cases hq;rfl
           subst hbb'
           rcases p2.lies _ hr with q|q
           ·exact j4 _ rfl q
           ·have:=hb6.size;omega
         generalize Vm.addF g e nx ((W'.take j).foldl (Vm.addF g e nx) pre) yy=nl at *
         obtain⟨yo,ya,yb⟩:=yy
         unfold iA at HA6
         obtain⟨e0,e1,e2,e3,-⟩:=in3 hx6
         clear j1 j2 j3 j4 HJ hyy hbq hbb hbx d0 d1 d2 hjl hb6 hx6 hkb6
         go_upto_region 12 with fail
         rw[<-hw6]
         clear hw6 b0 b1 b2
         go_wp2_with fail
         refine HA6.out.mono ?_
         rintro e7 w7 ⟨rfl,hq7⟩
         have HN7:=zh (HNX.out w7 hq7)
         clear hq7 HNX HA6
         go_wp2_with fail
         go_roundg (wn - (j+1))
         case measure=>omega
         case rel=>exact⟨j+1,by omega,rfl,by go_num,HN7⟩
        ·have hjt':¬(j:Int)<(wn:Int):=by omega
         have hje:j=wn:=by omega
         subst hje
         have HFIN:Hid (LdQ w n lb eb nx e res (.slice ca l.length cc) wr):=by
          refine⟨v',?_,j2⟩
          rw[HRES.out]
          have:=j1
          rw[HWN.out,List.take_length]at this
          exact this
         clear j1 j2 j3 j4 HJ
         go_wp2_with fail
         try simp only [Exit.inBlock,Exit.then]
         first|exact ze rfl rfl ⟨rfl,HFIN.out⟩|exact bodyPost_ret (v:=.tuple #[]) (by simp[results,Tryz.results83,go_sem]) rfl ⟨rfl,HFIN.out⟩
    ·have hd:decide ((e:Int)<=((ln+1:Nat):Int) - ((3:Nat):Int))=false:=decide_eq_false (by omega)
     have HF2:=zh (HFR.out 3 (by omega))
     rw[hd]at HF2
     have HQ:=zh (HST.out h2.out (pick3_no (by rw[<-HLN.out];omega)))
     clear HST HFR hd HCS HM1 HI
     go_wp2_with fail
     refine HF2.out.mono ?_
     rintro e' _ ⟨rfl,rfl⟩
     go_wp2_with fail
     exact ze rfl rfl ⟨rfl,HQ.out⟩
   ·have HQ:=zh (HST.out h2.out h3.out)
    clear HST HFR h2 h3 HCS HM1 HI
    go_wp2_with fail
    exact ze rfl rfl ⟨rfl,HQ.out⟩
theorem ko {P:Program}{w:World}{ops:Array Oper}{rest:List Oper}{o:Oper}{a:Act}{Q:Exit->Act->World->Prop}(hgd:o.guard=none) (t:TypeId) (ho:o.op=.alloc t) (v:Value) (w':World)
  (hrun:(Instr.alloc t true (.tuple #[])).run P w=.ok v w') (h:wpList P ops Q rest (a.put o.dst v) w'):wpList P ops Q (o :: rest) a w:=by
 refine wpList_plain hgd fun K hK=>?_
 unfold Oper.wp
 simp[execOp,ho,hrun,Result.andThen]
 exact hK _ _ h
def zMarks:Array Value:=Array.replicate 4000 (.int .u8 0)
def zPlace:Array Value:=Array.replicate 4000 (.int .i64 0)
theorem uu (w:World):(Instr.alloc 148 true (.tuple #[])).run Tryz.prog w=.ok (.pointer (some ⟨w.heap.size,0,none⟩)) (w.alloc (.cells zMarks 148)):=by kernel_rfl
theorem ut (w:World):(Instr.alloc 142 true (.tuple #[])).run Tryz.prog w=.ok (.pointer (some ⟨w.heap.size,0,none⟩)) (w.alloc (.cells zPlace 142)):=by kernel_rfl
theorem Tryz.infoI:(Tryz.prog.info? 3).map (fun i=>(i.zero,i.size,i.bytes))=some (some (.int .i64 0),1,8):=by kernel_rfl
def mkv (r a:Bool):Int:=if r=true then (if a=true then 3 else 1) else (if a=true then 2 else 0)
def Mks (w:World) (ab:Nat) (R aim:Nat->Bool):Prop:=∃ cs:Array Value,w.heap[ab]?=some (.cells cs 148 (0,0))/\cs.size=4000/\∀ i,i<4000->cs[i]?=some (.int .u8 (mkv (R i) (aim i)))
theorem Mks.of {w w':World}{ab:Nat}{R aim:Nat->Bool}(h:Mks w ab R aim) (k:w'.heap[ab]?=w.heap[ab]?):Mks w' ab R aim:=by
 obtain⟨cs,a,b⟩:=h
 exact⟨cs,k.trans a,b⟩
theorem Mks.lt {w:World}{ab:Nat}{R aim:Nat->Bool}(h:Mks w ab R aim):ab<w.heap.size:=by
 obtain⟨cs,a,b⟩:=h
 exact zk a
theorem Mks.cell {w:World}{ab:Nat}{R aim:Nat->Bool}(h:Mks w ab R aim) {i:Nat}(hi:i<4000):w.cell? ⟨ab,i,none⟩=some (.int .u8 (mkv (R i) (aim i))):=by
 obtain⟨cs,a,b,c⟩:=h
 exact(zc a).trans (c i hi)
theorem Mks.frz {w:World}{ab:Nat}{R aim:Nat->Bool}(h:Mks w ab R aim):∀ j,w.frozen? ⟨ab,j,none⟩=false:=by
 obtain⟨cs,a,b⟩:=h
 exact fun j=>zr a
theorem Mks.set {w:World}{ab:Nat}{R aim R' aim':Nat->Bool}(h:Mks w ab R aim) {i:Nat}(hi:i<4000) {v:Int}(hv:v=mkv (R' i) (aim' i)) (hj:∀ j,j≠i->R' j=R j/\aim' j=aim j):Mks (w.setCell ⟨ab,i,none⟩ (.int .u8 v)) ab R' aim':=by
 obtain⟨cs,a,b,c⟩:=h
 refine⟨cs.setIfInBounds i (.int .u8 v),zC i _ a,by simpa using b,fun j hj'=>?_⟩
 by_cases q:i=j
 ·subst q
  rw[Array.getElem?_setIfInBounds_self_of_lt (by omega),hv]
 ·rw[Array.getElem?_setIfInBounds_ne q,c j hj',(hj j (fun r=>q r.symm)).1,(hj j (fun r=>q r.symm)).2]
theorem mks_new (w:World):Mks (w.alloc (.cells zMarks 148)) w.heap.size (fun _=>false) (fun _=>false):=by
 refine⟨zMarks,zw w _,by unfold zMarks;simp,fun i hi=>?_⟩
 unfold zMarks
 rw[Array.getElem?_replicate,if_pos hi]
 rfl
def intsN (l:List Nat):List Value:=l.map fun n:Nat=>Value.int .i64 (n:Int)
theorem jG (l:List Nat):(intsN l).length=l.length:=by simp[intsN]
theorem jm (l:List Nat) (a:Nat):intsN (l++[a])=intsN l++[.int .i64 (a:Int)]:=by simp[intsN]
structure MkM (w:World) (n ab tb:Nat) (R aim:Nat->Bool) (l:List Nat) (v:Value):Prop where
 na:n<=ab
 nt:n<=tb
 mr:Mks w ab R aim
 tk:w.heap[tb]?=some (.cells #[v] 149 (0,0))
 tr:w.ownsRow n 3 1 v l.length (intsN l)
def abS (ab:Nat):Value:=.slice (some ⟨ab,0,none⟩) 0 0
theorem MkM.on {w w':World}{n ab tb:Nat}{R aim:Nat->Bool}{l:List Nat}{v:Value}(h:MkM w n ab tb R aim l v) (k:Below w.heap.size w w'):MkM w' n ab tb R aim l v:=⟨h.na,h.nt,h.mr.of (k.block _ h.mr.lt),(k.block _ (zk h.tk)).trans h.tk,zD h.tr k⟩
theorem MkM.ne {w:World}{n ab tb:Nat}{R aim:Nat->Bool}{l:List Nat}{v:Value}(h:MkM w n ab tb R aim l v):ab≠tb/\v.ownBlock≠some ab/\v.ownBlock≠some tb:=by
 obtain⟨cs,a,b⟩:=h.mr
 refine⟨fun q=>?_,zJ h.tr a (by decide),zJ h.tr h.tk (by decide)⟩
 rw[q,h.tk]at a
 cases a
theorem MkM.set {w:World}{n ab tb:Nat}{R aim R' aim':Nat->Bool}{l:List Nat}{v:Value}(h:MkM w n ab tb R aim l v) {i:Nat}(hi:i<4000) {m:Int}(hv:m=mkv (R' i) (aim' i)) (hj:∀ j,j≠i->R' j=R j/\aim' j=aim j):MkM (w.setCell ⟨ab,i,none⟩ (.int .u8 m)) n ab tb R' aim' l v/\Kpt w (w.setCell ⟨ab,i,none⟩ (.int .u8 m)) tb (abS ab) v v:=by
 obtain⟨h1,h2,h3⟩:=h.ne
 have k:∀ b,b≠ab->(w.setCell ⟨ab,i,none⟩ (.int .u8 m)).heap[b]?=w.heap[b]?:=fun b hb=>Below.heap_setCell _ _ _ _ (by exact hb)
 exact⟨⟨h.na,h.nt,h.mr.set hi hv hj,(k _ (fun q=>h1 q.symm)).trans h.tk,z7 h.tr fun b _ _ hb=>k b fun q=>h2 (q ▸ hb)⟩,(Kpt.refl w tb (abS ab) v).set (Or.inr (Or.inl rfl)) _ _⟩
theorem MkM.row {w w':World}{n ab tb:Nat}{R aim:Nat->Bool}{l l':List Nat}{v v':Value}(h:MkM w n ab tb R aim l v) (os:w'.os=w.os) (tape:w'.tape=w.tape) (output:w'.output=w.output) (size:w.heap.size<=w'.heap.size) (hb:∀ b,b<w.heap.size->v.ownBlock≠some b->w'.heap[b]?=w.heap[b]?) (hr:w'.ownsRow n 3 1 v' l'.length (intsN l')) (hv:∀ g,v'.ownBlock=some g->v.ownBlock=some g\/w.heap.size<=g):MkM (w'.setCell ⟨tb,0,none⟩ v') n ab tb R aim l' v'/\Kpt w (w'.setCell ⟨tb,0,none⟩ v') tb (abS ab) v v':=by
 obtain⟨h1,h2,h3⟩:=h.ne
 have l1:=h.mr.lt
 have l2:=zk h.tk
 have n3:v'.ownBlock≠some tb:=fun q=>by
  rcases hv tb q with r|r
  ·exact h3 r
  ·omega
 have k:∀ b,b≠tb->(w'.setCell ⟨tb,0,none⟩ v').heap[b]?=w'.heap[b]?:=fun b hb=>Below.heap_setCell _ _ _ _ (by exact hb)
 exact⟨⟨h.na,h.nt,h.mr.of ((k _ h1).trans (hb _ l1 h2)),zC 0 v' ((hb _ l2 h3).trans h.tk),z7 hr fun b _ _ q=>k b fun r=>n3 (r ▸ q)⟩,os,tape,output,by simpa[World.setCell] using size,fun b h1 h2 _ h4=>(k b h2).trans (hb b h1 h4),hv⟩
theorem MkM.less {w:World}{n ab tb g cap:Nat}{R aim:Nat->Bool}{l:List Nat}{a:Nat}(h:MkM w n ab tb R aim (l++[a]) (.slice (some ⟨g,0,none⟩) (l.length+1) cap)):MkM (w.setCell ⟨tb,0,none⟩ (.slice (some ⟨g,0,none⟩) l.length cap)) n ab tb R aim l (.slice (some ⟨g,0,none⟩) l.length cap)/\Kpt w (w.setCell ⟨tb,0,none⟩ (.slice (some ⟨g,0,none⟩) l.length cap)) tb (abS ab) (.slice (some ⟨g,0,none⟩) (l.length+1) cap) (.slice (some ⟨g,0,none⟩) l.length cap):=by
 refine h.row rfl rfl rfl zn (fun _ _ _=>rfl) ?_ (fun g' q=>Or.inl q)
 have hc:=h.tr
 rw[jm,List.length_append]at hc
 exact jy hc rfl (by rw[jG];omega) (by simp)
theorem one8 (k:IntKind) (x:Int):∀ u∈[Value.int k x],u.oneCell'=true:=by intro y hy;simp at hy;subst hy;rfl
def AimQ (w:World) (n ab tb:Nat) (R aim:Nat->Bool) (l:List Nat) (v:Value) (w':World):Prop:=∃ v',MkM w' n ab tb R aim l v'/\Kpt w w' tb (abS ab) v v'
def AimR (w:World) (n ab tb:Nat) (R aim:Nat->Bool) (l:List Nat) (v:Value) (e:Ending) (w':World):Prop:=e=.returned (.tuple #[])/\AimQ w n ab tb R aim l v w'
theorem aims_any {w:World}{n ab tb a:Nat}{R aim:Nat->Bool}{l:List Nat}{v:Value}(h:MkM w n ab tb R aim l v) (hn:n<=w.heap.size) (ha:a<4000) (hl:l.length<=100000):Calls Tryz.prog 85 #[.int .i64 (a:Int),.pointer (some ⟨ab,0,none⟩),.pointer (some ⟨tb,0,none⟩)] w (AimR w n ab tb R (fun i=>aim i || decide (i=a)) (l++[a]) v):=by
 obtain⟨ta,tc,rfl⟩:=zy h.tr
 obtain⟨m,hm⟩:∃ m,m=mkv (R a) true:=⟨_,rfl⟩
 obtain⟨h1,h2⟩:=h.set (R':=R) (aim':=fun i=>aim i || decide (i=a)) ha (m:=m) (by rw[hm];simp) (fun j hj=>⟨rfl,by simp[hj]⟩)
 have c0:=h.mr.cell ha
 have hab:=h.mr.lt
 have hf:=h.mr.frz
 have ha':(a:Int)<4000:=by omega
 obtain⟨w1,hw1⟩:∃ w1,w1=w.setCell ⟨ab,a,none⟩ (.int .u8 m):=⟨_,rfl⟩
 rw[<-hw1]at h1 h2
 have k0:w1.cell? ⟨tb,0,none⟩=some (.slice ta l.length tc):=(zc h1.tk).trans rfl
 have hlt:=zk h1.tk
 have hw1s:n<=w1.heap.size:=by rw[hw1];simpa[World.setCell] using hn
 have hown:=h1.tr
 have HF:Hid (∀(v3:Value) (w3:World),w3.ownsRow n 3 1 v3 (l.length+1) (intsN l++[.int .i64 (a:Int)])->Exact (.slice ta l.length tc) v3 w1 w3->Below n w1 w3->(w3.heap[tb]?=some (.cells #[.slice ta l.length tc] 149 (0,0))/\AimQ w n ab tb R (fun i=>aim i || decide (i=a)) (l++[a]) (.slice ta l.length tc) (w3.setCell ⟨tb,0,none⟩ v3))):=fun v3 w3 r1 r2 r3=>by
  obtain⟨q1,q2,q3⟩:=h1.ne
  refine⟨(r2.block _ hlt q3).trans h1.tk,?_⟩
  obtain⟨p1,p2⟩:=h1.row (l':=l++[a]) (v':=v3) r3.os r3.tape r3.output r2.size r2.block (by rw[List.length_append,jm];exact r1) r2.lies
  exact⟨v3,p1,h2.trans p2⟩
 have HW1:=zh hw1
 obtain⟨ln,hln⟩:∃ ln,ln=l.length:=⟨_,rfl⟩
 have hl':ln<=1000000:=by omega
 rw[<-hln]at k0 hown HF ⊢
 generalize intsN l=xs at *
 clear h h1 h2 hw1 hn hln hl
 unfold mkv at c0 hm
 cases hR:R a with
 | false =>
  cases hA:aim a with
  | false =>
   rw[hR,hA]at c0
   rw[hR]at hm
   have d0:w.cell? ⟨ab,a,none⟩=some (.int .u8 0):=c0
   have hm':m=2:=hm
   clear c0 hm
   subst hm'
   have eb:bits BinOp.or IntKind.u8 0 2=2:=by decide
   clear hR hA
   go_enter Tryz.func85,Tryz.ntmps85
   go_upto_region 1 with fail
   rw[<-HW1.out]
   clear HW1 d0 hf hab
   go_wp2_with (at_builtin;refine yX (size:=1) rfl _ _ 149 rfl Tryz.underlying149 Tryz.infoI rfl (by decide) (by decide) rfl hown [.int .i64 (a:Int)] rfl (one8 _ _) rfl hl' hw1s ?_)
   intro v3 w3 r1 r2 r3
   obtain⟨b3,hfin⟩:=HF.out v3 w3 r1 r2 r3
   have HFIN:=zh hfin
   have k3:w3.cell? ⟨tb,0,none⟩=some (.slice ta ln tc):=(zc b3).trans rfl
   have f3:w3.frozen? ⟨tb,0,none⟩=false:=zr b3
   have l3:=zk b3
   obtain⟨a3,c3,rfl⟩:=zy r1
   clear r1 r2 r3 b3 hfin HF
   go_wp2_with fail
   exact ze rfl rfl ⟨rfl,HFIN.out⟩
  | true =>
   rw[hR,hA]at c0
   rw[hR]at hm
   have d0:w.cell? ⟨ab,a,none⟩=some (.int .u8 2):=c0
   have hm':m=2:=hm
   clear c0 hm
   subst hm'
   have eb:bits BinOp.or IntKind.u8 2 2=2:=by decide
   clear hR hA
   go_enter Tryz.func85,Tryz.ntmps85
   go_upto_region 1 with fail
   rw[<-HW1.out]
   clear HW1 d0 hf hab
   go_wp2_with (at_builtin;refine yX (size:=1) rfl _ _ 149 rfl Tryz.underlying149 Tryz.infoI rfl (by decide) (by decide) rfl hown [.int .i64 (a:Int)] rfl (one8 _ _) rfl hl' hw1s ?_)
   intro v3 w3 r1 r2 r3
   obtain⟨b3,hfin⟩:=HF.out v3 w3 r1 r2 r3
   have HFIN:=zh hfin
   have k3:w3.cell? ⟨tb,0,none⟩=some (.slice ta ln tc):=(zc b3).trans rfl
   have f3:w3.frozen? ⟨tb,0,none⟩=false:=zr b3
   have l3:=zk b3
   obtain⟨a3,c3,rfl⟩:=zy r1
   clear r1 r2 r3 b3 hfin HF
   go_wp2_with fail
   exact ze rfl rfl ⟨rfl,HFIN.out⟩
 | true =>
  cases hA:aim a with
  | false =>
   rw[hR,hA]at c0
   rw[hR]at hm
   have d0:w.cell? ⟨ab,a,none⟩=some (.int .u8 1):=c0
   have hm':m=3:=hm
   clear c0 hm
   subst hm'
   have eb:bits BinOp.or IntKind.u8 1 2=3:=by decide
   clear hR hA
   go_enter Tryz.func85,Tryz.ntmps85
   go_upto_region 1 with fail
   rw[<-HW1.out]
   clear HW1 d0 hf hab
   go_wp2_with (at_builtin;refine yX (size:=1) rfl _ _ 149 rfl Tryz.underlying149 Tryz.infoI rfl (by decide) (by decide) rfl hown [.int .i64 (a:Int)] rfl (one8 _ _) rfl hl' hw1s ?_)
   intro v3 w3 r1 r2 r3
   obtain⟨b3,hfin⟩:=HF.out v3 w3 r1 r2 r3
   have HFIN:=zh hfin
   have k3:w3.cell? ⟨tb,0,none⟩=some (.slice ta ln tc):=(zc b3).trans rfl
   have f3:w3.frozen? ⟨tb,0,none⟩=false:=zr b3
   have l3:=zk b3
   obtain⟨a3,c3,rfl⟩:=zy r1
   clear r1 r2 r3 b3 hfin HF
   go_wp2_with fail
   exact ze rfl rfl ⟨rfl,HFIN.out⟩
  | true =>
   rw[hR,hA]at c0
   rw[hR]at hm
   have d0:w.cell? ⟨ab,a,none⟩=some (.int .u8 3):=c0
   have hm':m=3:=hm
   clear c0 hm
   subst hm'
   have eb:bits BinOp.or IntKind.u8 3 2=3:=by decide
   clear hR hA
   go_enter Tryz.func85,Tryz.ntmps85
   go_upto_region 1 with fail
   rw[<-HW1.out]
   clear HW1 d0 hf hab
   go_wp2_with (at_builtin;refine yX (size:=1) rfl _ _ 149 rfl Tryz.underlying149 Tryz.infoI rfl (by decide) (by decide) rfl hown [.int .i64 (a:Int)] rfl (one8 _ _) rfl hl' hw1s ?_)
   intro v3 w3 r1 r2 r3
   obtain⟨b3,hfin⟩:=HF.out v3 w3 r1 r2 r3
   have HFIN:=zh hfin
   have k3:w3.cell? ⟨tb,0,none⟩=some (.slice ta ln tc):=(zc b3).trans rfl
   have f3:w3.frozen? ⟨tb,0,none⟩=false:=zr b3
   have l3:=zk b3
   obtain⟨a3,c3,rfl⟩:=zy r1
   clear r1 r2 r3 b3 hfin HF
   go_wp2_with fail
   exact ze rfl rfl ⟨rfl,HFIN.out⟩
def unr (R:Nat->Bool):Nat->Nat
 | 0=>0
 | n+1=>unr R n+(if R n=true then 0 else 1)
theorem unr_le (R:Nat->Bool):∀ n,unr R n<=n
 | 0=>Nat.le_refl _
 | n+1=>by
  have:=unr_le R n
  rw[unr]
  split <;> omega
def orAt (R:Nat->Bool) (a:Nat):Nat->Bool:=fun i=>R i || decide (i=a)
theorem yj {R:Nat->Bool}{a i:Nat}:orAt R a i=true↔R i=true\/i=a:=by unfold orAt;simp
theorem unr_le' (R:Nat->Bool) (a:Nat):∀ n,unr (orAt R a) n<=unr R n
 | 0=>Nat.le_refl _
 | n+1=>by
  have:=unr_le' R a n
  rw[unr,unr]
  by_cases h:R n=true
  ·rw[if_pos (yj.2 (Or.inl h)),if_pos h];exact this
  ·rw[if_neg h]
   split <;> omega
theorem unr_lt {R:Nat->Bool}{a:Nat}(hR:R a=false):∀ n,a<n->unr (orAt R a) n+1<=unr R n
 | 0,h=>by omega
 | n+1,h=>by
  rw[unr,unr]
  by_cases q:a=n
  ·subst q
   have:=unr_le' R a a
   rw[if_pos (yj.2 (Or.inr rfl)),if_neg (by rw[hR];exact Bool.noConfusion)]
   omega
  ·have:=unr_lt hR n (by omega)
   by_cases h:R n=true
   ·rw[if_pos (yj.2 (Or.inl h)),if_pos h];exact this
   ·rw[if_neg (fun r=>by rcases yj.1 r with r|r;exact h r;exact q r.symm),if_neg h];omega
structure MkJ (w0 wr:World) (o:O) (ab tb:Nat) (R aim:Nat->Bool) (T:Nat->Prop) (l:List Nat) (c:Nat) (v:Value):Prop where
 be:Below w0.heap.size w0 wr
 mm:MkM wr w0.heap.size ab tb R aim l v
 mi:Vm.MkI (Vm.nu o) R aim T
 ct:2 * unr R o.code.length+l.length<=c
theorem jd {w0 w w':World}{tb ab:Nat}{v v':Value}(h:Below w0.heap.size w0 w) (k:Kpt w w' tb (abS ab) v v') (h1:w0.heap.size<=tb) (h2:w0.heap.size<=ab) (h3:∀ g,v.ownBlock=some g->w0.heap.size<=g):Below w0.heap.size w0 w':=h.trans (k.below h.size h1 (fun g q=>by cases q;exact h2) h3)
theorem MkJ.on {w0 wr w':World}{o:O}{ab tb:Nat}{R aim:Nat->Bool}{T:Nat->Prop}{l:List Nat}{c:Nat}{v:Value}(h:MkJ w0 wr o ab tb R aim T l c v) (k:Below wr.heap.size wr w'):MkJ w0 w' o ab tb R aim T l c v:=⟨h.be.trans (k.mono h.be.size),h.mm.on k,h.mi,h.ct⟩
def Ents (o:O) (aim:Nat->Bool) (k:Nat):Prop:=∀ j e,j<k->o.procs[j]?=some e->aim e.at'.toNat=true
theorem Ents.all {o:O}{aim:Nat->Bool}(h:Ents o aim o.procs.length):∀ e∈o.procs,aim e.at'.toNat=true:=fun e he=>by
 obtain⟨j,hj⟩:=List.mem_iff_getElem?.1 he
 exact h j e (List.getElem?_eq_some_iff.1 hj).1 hj
theorem mk_ents {w0 wr w':World}{o:O}{ab tb:Nat}{aim:Nat->Bool}{l:List Nat}{c k:Nat}{v:Value}(hO:Vm.Okc (Vm.nu o)) (h:MkJ w0 wr o ab tb (fun _=>false) aim (fun i=>i∈l) l c v) (hE:Ents o aim k) {e:Ob.En}(he:o.procs[k]?=some e) (hq:AimQ wr w0.heap.size ab tb (fun _=>false) (fun i=>aim i || decide (i=e.at'.toNat)) (l++[e.at'.toNat]) v w'):∃ v',MkJ w0 w' o ab tb (fun _=>false) (orAt aim e.at'.toNat) (fun i=>i∈l++[e.at'.toNat]) (l++[e.at'.toNat]) (c+1) v'/\Ents o (orAt aim e.at'.toNat) (k+1):=by
 obtain⟨v',h1,h2⟩:=hq
 refine⟨v',⟨jd h.be h2 h.mm.nt h.mm.na (fun g q=>zG h.mm.tr g q),h1,h.mi.aims (hO.ent e (List.mem_of_getElem? he)).2 (fun i=>yj) (fun i=>by simp),?_⟩,fun j e' hj he'=>?_⟩
 ·have:=h.ct
  rw[List.length_append]
  simp
  omega
 ·by_cases q:j=k
  ·subst q
   rw[he]at he'
   cases he'
   exact yj.2 (Or.inr rfl)
  ·exact yj.2 (Or.inl (hE j e' (by omega) he'))
theorem mi_visit0 {o:O}(hO:Vm.Okc (Vm.nu o)) {R aim:Nat->Bool}{l:List Nat}{a:Nat}{x:In}{gb:Bool}(h:Vm.MkI (Vm.nu o) R aim (fun i=>i∈l\/i=a)) (hx:o.code[a]?=some x) (hno:¬(Vm.Go8 x/\x≠Vm.idl a)) (hgb:gb=true↔¬Vm.Ends x\/x=Vm.idl a):Vm.MkI (Vm.nu o) (orAt R a) aim (fun i=>i∈l\/(gb=true/\i=a+1)) :=
 h.visit hO (a:=a) (x:=x) hx (fun _=>yj) (fun _=>⟨fun q=>Or.inl q,fun q=>q.elim id fun r=>absurd r.1 hno⟩) (fun _ q=>q.elim (fun r=>Or.inl (Or.inl r)) Or.inr) (fun _ q=>q.elim (fun r=>Or.inl (Or.inl r)) fun r=>Or.inr (Or.inr ⟨hgb.1 r.1,r.2⟩)) (fun q1 q2=>absurd ⟨q1,q2⟩ hno) fun q=>Or.inr ⟨hgb.2 q,rfl⟩
theorem mi_visit1 {o:O}(hO:Vm.Okc (Vm.nu o)) {R aim:Nat->Bool}{l:List Nat}{a:Nat}{x:In}{gb:Bool}(h:Vm.MkI (Vm.nu o) R aim (fun i=>i∈l\/i=a)) (hx:o.code[a]?=some x) (hyes:Vm.Go8 x/\x≠Vm.idl a) (hgb:gb=true↔¬Vm.Ends x\/x=Vm.idl a):Vm.MkI (Vm.nu o) (orAt R a) (orAt aim x.a.toNat) (fun i=>i∈l++[x.a.toNat]\/(gb=true/\i=a+1)) :=
 h.visit hO (a:=a) (x:=x) hx (fun _=>yj) (fun _=>yj.trans ⟨fun q=>q.imp id fun r=>⟨hyes,r⟩,fun q=>q.imp id fun r=>r.2⟩) (fun _ q=>q.elim (fun r=>Or.inl (Or.inl (List.mem_append_left _ r))) Or.inr) (fun _ q=>q.elim (fun r=>(List.mem_append.1 r).elim (fun t=>Or.inl (Or.inl t)) fun t=>Or.inr (Or.inl ⟨hyes,List.mem_singleton.1 t⟩)) fun r=>Or.inr (Or.inr ⟨hgb.1 r.1,r.2⟩)) (fun _ _=>Or.inl (List.mem_append_right _ (List.mem_singleton_self _))) fun q=>Or.inr ⟨hgb.2 q,rfl⟩
theorem jD {o:O}{R aim:Nat->Bool}{T T':Nat->Prop}(h:Vm.MkI o R aim T) (hT:∀ i,T i↔T' i):Vm.MkI o R aim T':=by
 have e:T=T':=funext fun i=>propext (hT i)
 rw[<-e]
 exact h
end Go.Proofs.YtmnedfdffbbchaaGreatDoor.Jo
