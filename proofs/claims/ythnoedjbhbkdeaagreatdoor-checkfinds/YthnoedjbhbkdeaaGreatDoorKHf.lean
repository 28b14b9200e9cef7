import Derived.Test.YthnoedjbhbkdeaaGreatDoorKHd
import Derived.Test.YthnoedjbhbkdeaaGreatDoorKXa
import Derived.Test.YthnoedjbhbkdeaaGreatDoorKHe
set_option maxRecDepth 100000
set_option maxHeartbeats 4000000
namespace Go.Proofs.YthnoedjbhbkdeaaGreatDoor
open Go.RowKit Go.Sort
open Tp (X Seen R S)
theorem ix2_0 (a1 a2:Option Addr) (n1 c1 n2 c2:Nat) (w:World):(Instr.index 200 (.agg #[.slice a1 n1 c1,.slice a2 n2 c2]) (.int .i64 0)).run Tryz.prog w=.ok (.slice a1 n1 c1) w:=by kernel_rfl
theorem ix2_1 (a1 a2:Option Addr) (n1 c1 n2 c2:Nat) (w:World):(Instr.index 200 (.agg #[.slice a1 n1 c1,.slice a2 n2 c2]) (.int .i64 1)).run Tryz.prog w=.ok (.slice a2 n2 c2) w:=by kernel_rfl
def JaS (wJ:World) (aa:Option Addr) (i:Nat) (s:S) (TC EC:Value->Prop):Prop:=∃(g:Nat) (ls vs:List Value) (xa va ta ea:Option Addr) (tc ec:Nat),aa=some ⟨g,0,none⟩/\g<wJ.heap.size /\
 (∀ j,j<7->wJ.cell? ⟨g,i * 7+j,none⟩=[.int .i64 (s.code:Int),.int .i64 (s.pos:Int),.string (bs s.name),.pointer xa,.pointer va,.slice ta s.thn.length tc,.slice ea s.els.length ec][j]?) /\
 RepL wJ (fun b=>b<wJ.heap.size) s.index ls/\RepL wJ (fun b=>b<wJ.heap.size) s.value vs/\ls.headD (.pointer none)=.pointer xa/\vs.headD (.pointer none)=.pointer va/\(s.index=[]\/∃ z,s.index=[z]/\Tp.WX [z])/\(s.value=[]\/∃ z,s.value=[z]/\Tp.WX [z])/\TC (.slice ta s.thn.length tc)/\EC (.slice ea s.els.length ec)
def JaB (m:Tp.M) (own:List (List UInt8)) (Sn:Seen) (wJ:World) (MC:Array Value) (ov:Value) (so:Option Nat) (l:List S) (v:Value):Prop:=∀ W,Below wJ.heap.size wJ W->Calls Tryz.prog 80 #[.agg MC,ov,.map so,v] W fun e w'=>JdP ((Tp.rs l).findSome? (Tp.judge m own Sn)) e/\Below W.heap.size W w'
theorem ja_walk {m:Tp.M}{wJ:World}{ia ga pa ba oa aa:Option Addr}{ic gc pc bc oc ac:Nat}{own:List (List UInt8)}{so:Option Nat}{Sn:Seen}{l:List S}(hn:l.length<=9223372036854775807) (hcode:∀ i (h:i<l.length),l[i].code<=1000)
  (hV:∀ fb mb ob sb,Vis (fun f W=>LkI wJ fb mb ob sb #[.string (bs m.name),.slice ia m.imports.length ic,.slice ga m.vars.length gc,.slice pa m.procs.length pc,.slice ba m.body.length bc] (.slice oa own.length oc) so f W) (fun y f=>stpF (jdN m own Sn (refOf y)) f) fb 132 fb mb ob sb)
  (hLk:∀ {fb mb ob sb:Nat} {f:Int× Int} {W:World} {code pos x:Nat} {nm:List UInt8},LkI wJ fb mb ob sb #[.string (bs m.name),.slice ia m.imports.length ic,.slice ga m.vars.length gc,.slice pa m.procs.length pc,.slice ba m.body.length bc] (.slice oa own.length oc) so f W->W.heap[x]?=some (.cells #[.int .i64 (code:Int),.int .i64 (pos:Int),.int .i64 0,.string ⟨#[]⟩,.string (bs nm),.string ⟨#[]⟩,.pointer none,.pointer none,.slice none 0 0] 111 (0,0))->Calls Tryz.prog 132 #[.pointer (some ⟨x,0,none⟩),.pointer (some ⟨fb,0,none⟩),.pointer (some ⟨mb,0,none⟩),.pointer (some ⟨ob,0,none⟩),.pointer (some ⟨sb,0,none⟩)] W fun e w'=>e=.returned (.tuple #[])/\LkI wJ fb mb ob sb #[.string (bs m.name),.slice ia m.imports.length ic,.slice ga m.vars.length gc,.slice pa m.procs.length pc,.slice ba m.body.length bc] (.slice oa own.length oc) so (stpF (jdN m own Sn ⟨code,pos,[],nm,0⟩) f) w'/\Ext fb W w')
  (hfine:wJ.cell? ⟨0,0,none⟩=some (.int .i64 0)/\wJ.cell? ⟨0,1,none⟩=some (.int .i64 (-1)))
  (hst:∀ i (h:i<l.length),JaS wJ aa i l[i] (JaB m own Sn wJ #[.string (bs m.name),.slice ia m.imports.length ic,.slice ga m.vars.length gc,.slice pa m.procs.length pc,.slice ba m.body.length bc] (.slice oa own.length oc) so l[i].thn) (JaB m own Sn wJ #[.string (bs m.name),.slice ia m.imports.length ic,.slice ga m.vars.length gc,.slice pa m.procs.length pc,.slice ba m.body.length bc] (.slice oa own.length oc) so l[i].els)) :
  Calls Tryz.prog 80 #[.agg #[.string (bs m.name),.slice ia m.imports.length ic,.slice ga m.vars.length gc,.slice pa m.procs.length pc,.slice ba m.body.length bc],.slice oa own.length oc,.map so,.slice aa l.length ac] wJ fun e w'=>JdP ((Tp.rs l).findSome? (Tp.judge m own Sn)) e/\Below wJ.heap.size wJ w':=by
 have hn':(l.length:Int)<=9223372036854775807:=by omega
 obtain⟨fb,mb,ob,sb,rb,hmb,hob,hsb,hrb,hfb,hLK,hRB⟩:=ja_boxes (m:=m) (wJ:=wJ) (ia:=ia) (ga:=ga) (pa:=pa) (ba:=ba) (oa:=oa) (ic:=ic) (gc:=gc) (pc:=pc) (bc:=bc) (oc:=oc) (own:=own) (so:=so)
 have HV:=zh (hV fb mb ob sb)
 have HLk:Hid (∀ {f:Int× Int} {W:World} {code pos x:Nat} {nm:List UInt8},LkI wJ fb mb ob sb #[.string (bs m.name),.slice ia m.imports.length ic,.slice ga m.vars.length gc,.slice pa m.procs.length pc,.slice ba m.body.length bc] (.slice oa own.length oc) so f W->W.heap[x]?=some (.cells #[.int .i64 (code:Int),.int .i64 (pos:Int),.int .i64 0,.string ⟨#[]⟩,.string (bs nm),.string ⟨#[]⟩,.pointer none,.pointer none,.slice none 0 0] 111 (0,0))->Calls Tryz.prog 132 #[.pointer (some ⟨x,0,none⟩),.pointer (some ⟨fb,0,none⟩),.pointer (some ⟨mb,0,none⟩),.pointer (some ⟨ob,0,none⟩),.pointer (some ⟨sb,0,none⟩)] W fun e w'=>e=.returned (.tuple #[])/\LkI wJ fb mb ob sb #[.string (bs m.name),.slice ia m.imports.length ic,.slice ga m.vars.length gc,.slice pa m.procs.length pc,.slice ba m.body.length bc] (.slice oa own.length oc) so (stpF (jdN m own Sn ⟨code,pos,[],nm,0⟩) f) w'/\Ext fb W w'):=fun a b=>hLk a b
 have HST:=zh hst
 have HLK:=zh hLK
 have HRB:=zh hRB
 have HFN:=zh hfine
 have HCO:=zh hcode
 have hmf:=zm
 have g0:=hfine.1
 have g1:=hfine.2
 have hgl:=zi g0
 have hrf:rb≠fb:=by omega
 have hrw:wJ.heap.size<=rb:=by omega
 obtain⟨W5,hW5⟩:∃ W5,W5=(((((wJ.alloc (.cells #[.string (bs m.name),.slice ia m.imports.length ic,.slice ga m.vars.length gc,.slice pa m.procs.length pc,.slice ba m.body.length bc] 27)).alloc (.cells #[.slice oa own.length oc] 22)).alloc (.cells #[.map so] 53)).alloc (.cells #[.int .i64 0,.int .i64 0] 30)).alloc (.cells #[.int .i64 0,.int .i64 (-1)] 30)):=⟨_,rfl⟩
 rw[<-hW5]at HLK HRB
 clear hV hLk hst hLK hRB hfine hcode
 go_enter Tryz.func80,Tryz.ntmps80
 go_upto_region 3 with fail
 rw[<-hW5]
 rw[show wJ.heap.size+1+1+1+1=fb by omega,show wJ.heap.size+1+1+1=rb by omega,show wJ.heap.size+1+1=sb by omega,show wJ.heap.size+1=ob by omega,<-hmb]
 clear hW5 g0 g1 hgl hmb hob hsb hrb hfb
 go_wp2_with fail
 go_loopg [20] l.length (fun k vi wr=>∃ i:Nat,i<=l.length/\k=l.length - i/\vi=.int .i64 (i:Int)/\Hid (LkI wJ fb mb ob sb #[.string (bs m.name),.slice ia m.imports.length ic,.slice ga m.vars.length gc,.slice pa m.procs.length pc,.slice ba m.body.length bc] (.slice oa own.length oc) so (0,-1) wr)/\Hid (wr.heap[rb]?=some (.cells #[.int .i64 0,.int .i64 0] 30 (0,0)))/\Hid (fnd (Tp.judge m own Sn) (Tp.rs (l.take i)) (0,-1)=(0,-1)))
 case atStart=>exact⟨0,by omega,by omega,rfl,HLK,HRB,by show _=_;rw[List.take_zero,Tp.rs];rfl⟩
 case round =>
  obtain⟨i,hid,hk,rfl,HL,HR,HN⟩:=hrel
  by_cases hlt:i<l.length
  ·have hlt':(i:Int)<(l.length:Int):=by omega
   obtain⟨g,ls,vs,xa,va,ta,ea,tc,ec,rfl,hgg,hc,hrx,hrv,hxa,hva,hix,hvl,hT,hE⟩:=HST.out i hlt
   have hco:=HCO.out i hlt
   have hcell:∀ j,j<7->wr.cell? ⟨g,i * 7+j,none⟩=[.int .i64 (l[i].code:Int),.int .i64 (l[i].pos:Int),.string (bs l[i].name),.pointer xa,.pointer va,.slice ta l[i].thn.length tc,.slice ea l[i].els.length ec][j]?:=fun j hj=>(HL.out.bel.cell (p:=⟨g,i * 7+j,none⟩) hgg).trans (hc j hj)
   have x0:wr.cell? ⟨g,i * 7,none⟩=some (.int .i64 (l[i].code:Int)):=hcell 0 (by omega)
   have x1:wr.cell? ⟨g,i * 7+1,none⟩=some (.int .i64 (l[i].pos:Int)):=hcell 1 (by omega)
   have x2:wr.cell? ⟨g,i * 7+2,none⟩=some (.string (bs l[i].name)):=hcell 2 (by omega)
   have x3:wr.cell? ⟨g,i * 7+3,none⟩=some (.pointer xa):=hcell 3 (by omega)
   have x4:wr.cell? ⟨g,i * 7+4,none⟩=some (.pointer va):=hcell 4 (by omega)
   have x5:wr.cell? ⟨g,i * 7+5,none⟩=some (.slice ta l[i].thn.length tc):=hcell 5 (by omega)
   have x6:wr.cell? ⟨g,i * 7+6,none⟩=some (.slice ea l[i].els.length ec):=hcell 6 (by omega)
   have hgw:=zi x0
   have HRX:=zh hrx
   have HRV:=zh hrv
   have HXA:=zh hxa
   have HVA:=zh hva
   have HIX:=zh hix
   have HVL:=zh hvl
   have HT:=zh hT
   have HE:=zh hE
   obtain⟨s,hs⟩:∃ s,s=l[i]:=⟨_,rfl⟩
   have HSI:=zh hs
   rw[<-hs]at x0 x1 x2 x5 x6 HRX HRV HIX HVL HT HE hco
   clear hc hcell hrx hrv hxa hva hix hvl hT hE hgg hs
   go_upto_region 5 with fail
   go_cut [12] from 24 to 70 (fun v12 wq=>∃ b2:Nat,v12=.pointer (some ⟨b2,0,none⟩)/\Hid (wq.heap[b2]?=some (.cells #[.int .i64 (s.code:Int),.int .i64 (s.pos:Int),.string (bs s.name),.pointer xa,.pointer va,.slice ta s.thn.length tc,.slice ea s.els.length ec] 96 (0,0)))/\wr.heap.size<=b2/\Hid (Below wr.heap.size wr wq))
   case first =>
    go_wp2_with fail
    go_meet
    case rel=>exact⟨wr.heap.size,rfl,zl wr _,Nat.le_refl _,zb _ _⟩
   case rest =>
    obtain⟨b2,rfl,HC2,hb2,HBq⟩:=hcut
    rename World=>wq
    have HLq:=zh (HL.out.on HBq.out)
    have HRq:Hid (wq.heap[rb]?=some (.cells #[.int .i64 0,.int .i64 0] 30 (0,0))):=(HBq.out.block rb (zc HR.out)).trans HR.out
    have hb2f:b2≠fb:=by have:=zc HL.out.fbk;omega
    clear x0 x1 x2 x3 x4 x5 x6 hgw
    have y0:wq.cell? ⟨b2,0,none⟩=some (.int .i64 (s.code:Int)):=za HC2.out
    have y1:wq.cell? ⟨b2,1,none⟩=some (.int .i64 (s.pos:Int)):=za HC2.out
    have y2:wq.cell? ⟨b2,2,none⟩=some (.string (bs s.name)):=za HC2.out
    have y3:wq.cell? ⟨b2,3,none⟩=some (.pointer xa):=za HC2.out
    have hl2:=zc HC2.out
    obtain⟨f1,hf1⟩:∃ f1,f1=fnd (Tp.judge m own Sn) (if s.code=1 then [⟨if s.index.isEmpty then 2 else 3,s.pos,[],s.name,0⟩] else []) (0,-1):=⟨_,rfl⟩
    have HF1:=zh hf1
    clear hf1
    go_upto_if 26 with fail
    go_cut [13] from 25 to 41 (fun _v13 wz=>Hid (LkI wJ fb mb ob sb #[.string (bs m.name),.slice ia m.imports.length ic,.slice ga m.vars.length gc,.slice pa m.procs.length pc,.slice ba m.body.length bc] (.slice oa own.length oc) so f1 wz)/\Hid (Ext fb wq wz))
    case first =>
     by_cases hc1:s.code=1
     ·have hc1':(s.code:Int)=1:=by omega
      have hcb:((s.code:Int) == 1)=true:=by simp[hc1']
      have hjn:∀ code,code=2\/code=3->jdN m own Sn ⟨code,s.pos,[],s.name,0⟩=Tp.judge m own Sn ⟨code,s.pos,[],s.name,0⟩:=fun code h=>by unfold jdN;rw[if_pos (by rcases h with h|h <;> simp[h])]
      rcases HIX.out with he|⟨z,he,_⟩
      ·have hxn:xa=none:=by
        have h1:=HXA.out
        have h2:=HRX.out
        rw[he]at h2
        have:ls=[]:=List.eq_nil_of_length_eq_zero (by have:=RepL.len _ _ h2;simpa using this)
        rw[this]at h1
        simpa using h1.symm
       subst hxn
       have hbk:(wq.alloc (.cells #[.int .i64 2,.int .i64 (s.pos:Int),.int .i64 0,.string ⟨#[]⟩,.string (bs s.name),.string ⟨#[]⟩,.pointer none,.pointer none,.slice none 0 0] 111)).heap[wq.heap.size]?=some (.cells #[.int .i64 ((2:Nat):Int),.int .i64 (s.pos:Int),.int .i64 0,.string ⟨#[]⟩,.string (bs s.name),.string ⟨#[]⟩,.pointer none,.pointer none,.slice none 0 0] 111 (0,0)):=zl wq (.cells #[.int .i64 2,.int .i64 (s.pos:Int),.int .i64 0,.string ⟨#[]⟩,.string (bs s.name),.string ⟨#[]⟩,.pointer none,.pointer none,.slice none 0 0] 111)
       have hLa:=HLq.out.on ((Below.refl wq.heap.size wq).alloc zn (.cells #[.int .i64 2,.int .i64 (s.pos:Int),.int .i64 0,.string ⟨#[]⟩,.string (bs s.name),.string ⟨#[]⟩,.pointer none,.pointer none,.slice none 0 0] 111))
       have HC:=zh (HLk.out (f:=(0,-1)) (W:=wq.alloc (.cells #[.int .i64 2,.int .i64 (s.pos:Int),.int .i64 0,.string ⟨#[]⟩,.string (bs s.name),.string ⟨#[]⟩,.pointer none,.pointer none,.slice none 0 0] 111)) (code:=2) (pos:=s.pos) (x:=wq.heap.size) (nm:=s.name) hLa hbk)
       clear hbk hLa
       have HFF:Hid (stpF (jdN m own Sn ⟨2,s.pos,[],s.name,0⟩) (0,-1)=f1):=by
        show _=_
        rw[HF1.out,if_pos hc1,he,hjn 2 (Or.inl rfl)]
        rfl
       go_wp2_with fail
       refine HC.out.mono ?_
       rintro e w3 ⟨rfl,hI3,hx3⟩
       have HI3:Hid (LkI wJ fb mb ob sb #[.string (bs m.name),.slice ia m.imports.length ic,.slice ga m.vars.length gc,.slice pa m.procs.length pc,.slice ba m.body.length bc] (.slice oa own.length oc) so f1 w3):=by rw[<-HFF.out];exact hI3
       have HX3:Hid (Ext fb wq w3):=(Ext.of_below (zb _ _)).trans hx3
       clear hI3 hx3 HC
       go_wp2_with fail
       go_meet
       case rel=>exact⟨HI3,HX3⟩
      ·obtain⟨xc,hxc⟩:∃ xc:Nat,xa=some ⟨xc,0,none⟩:=by
        have h1:=HXA.out
        have h2:=HRX.out
        rw[he]at h2
        obtain⟨c,hc⟩:=h2.single
        rw[hc]at h1
        exact⟨c,by simpa using h1.symm⟩
       subst hxc
       have hbk:(wq.alloc (.cells #[.int .i64 3,.int .i64 (s.pos:Int),.int .i64 0,.string ⟨#[]⟩,.string (bs s.name),.string ⟨#[]⟩,.pointer none,.pointer none,.slice none 0 0] 111)).heap[wq.heap.size]?=some (.cells #[.int .i64 ((3:Nat):Int),.int .i64 (s.pos:Int),.int .i64 0,.string ⟨#[]⟩,.string (bs s.name),.string ⟨#[]⟩,.pointer none,.pointer none,.slice none 0 0] 111 (0,0)):=zl wq (.cells #[.int .i64 3,.int .i64 (s.pos:Int),.int .i64 0,.string ⟨#[]⟩,.string (bs s.name),.string ⟨#[]⟩,.pointer none,.pointer none,.slice none 0 0] 111)
       have hLa:=HLq.out.on ((Below.refl wq.heap.size wq).alloc zn (.cells #[.int .i64 3,.int .i64 (s.pos:Int),.int .i64 0,.string ⟨#[]⟩,.string (bs s.name),.string ⟨#[]⟩,.pointer none,.pointer none,.slice none 0 0] 111))
       have HC:=zh (HLk.out (f:=(0,-1)) (W:=wq.alloc (.cells #[.int .i64 3,.int .i64 (s.pos:Int),.int .i64 0,.string ⟨#[]⟩,.string (bs s.name),.string ⟨#[]⟩,.pointer none,.pointer none,.slice none 0 0] 111)) (code:=3) (pos:=s.pos) (x:=wq.heap.size) (nm:=s.name) hLa hbk)
       clear hbk hLa
       have HFF:Hid (stpF (jdN m own Sn ⟨3,s.pos,[],s.name,0⟩) (0,-1)=f1):=by
        show _=_
        rw[HF1.out,if_pos hc1,he,hjn 3 (Or.inr rfl)]
        rfl
       go_wp2_with fail
       refine HC.out.mono ?_
       rintro e w3 ⟨rfl,hI3,hx3⟩
       have HI3:Hid (LkI wJ fb mb ob sb #[.string (bs m.name),.slice ia m.imports.length ic,.slice ga m.vars.length gc,.slice pa m.procs.length pc,.slice ba m.body.length bc] (.slice oa own.length oc) so f1 w3):=by rw[<-HFF.out];exact hI3
       have HX3:Hid (Ext fb wq w3):=(Ext.of_below (zb _ _)).trans hx3
       clear hI3 hx3 HC
       go_wp2_with fail
       go_meet
       case rel=>exact⟨HI3,HX3⟩
     ·have hc1':¬(s.code:Int)=1:=by omega
      have hcb:((s.code:Int) == 1)=false:=by simp[hc1']
      have HI3:Hid (LkI wJ fb mb ob sb #[.string (bs m.name),.slice ia m.imports.length ic,.slice ga m.vars.length gc,.slice pa m.procs.length pc,.slice ba m.body.length bc] (.slice oa own.length oc) so f1 wq):=by
       rw[HF1.out,if_neg hc1]
       exact HLq.out
      go_wp2_with fail
      go_meet
      case rel=>exact⟨HI3,Ext.refl _ _⟩
    case rest =>
     obtain⟨HLz,HXz⟩:=hcut
     rename World=>wz
     have hcz:=(HXz.out.block b2 (zc HC2.out) hb2f).trans HC2.out
     have y3:wz.cell? ⟨b2,3,none⟩=some (.pointer xa):=za hcz
     have y4:wz.cell? ⟨b2,4,none⟩=some (.pointer va):=za hcz
     have hl2:=zc hcz
     have HCZ:=zh hcz
     have hwb:Below wJ.heap.size wJ wz:=HLz.out.bel
     have hfz:=zc HLz.out.fbk
     have hbk:(wz.alloc (.cells #[.int .i64 0,.int .i64 0,.string ⟨#[]⟩,.pointer xa,.pointer va,.slice none 0 0,.slice none 0 0] 96)).heap[wz.heap.size]?=some (.cells #[.int .i64 0,.int .i64 0,.string ⟨#[]⟩,.pointer xa,.pointer va,.slice none 0 0,.slice none 0 0] 96 (0,0)):=zl _ _
     have hba:Below wz.heap.size wz (wz.alloc (.cells #[.int .i64 0,.int .i64 0,.string ⟨#[]⟩,.pointer xa,.pointer va,.slice none 0 0,.slice none 0 0] 96)):=zb _ _
     have hJa:Below wJ.heap.size wJ (wz.alloc (.cells #[.int .i64 0,.int .i64 0,.string ⟨#[]⟩,.pointer xa,.pointer va,.slice none 0 0,.slice none 0 0] 96)):=hwb.trans (hba.mono hwb.size)
     have hmr:∀ {lx:List X} {us:List Value},RepL wJ (fun b=>b<wJ.heap.size) lx us->RepL (wz.alloc (.cells #[.int .i64 0,.int .i64 0,.string ⟨#[]⟩,.pointer xa,.pointer va,.slice none 0 0,.slice none 0 0] 96)) (fun b=>b<wJ.heap.size) lx us:=fun h=>h.step' hJa
     have HC:=zh (walk_one HV.out HIX.out HVL.out (HLz.out.on hba) (hmr HRX.out) (hmr HRV.out) (fun i hi=>by have:=HLz.out.lf;omega) (c:=1) (by have:=hba.size;omega) HXA.out HVA.out hbk (by omega))
     clear hbk hba hJa hmr hcz hwb y0 y1 y2
     go_wp2_with fail
     refine HC.out.mono ?_
     rintro e w4 ⟨rfl,hI4,hx4⟩
     obtain⟨f2,hf2⟩:∃ f2,f2=fnd (Tp.judge m own Sn) (Tp.rx s.index++Tp.rx s.value) f1:=⟨_,rfl⟩
     have hI4':LkI wJ fb mb ob sb #[.string (bs m.name),.slice ia m.imports.length ic,.slice ga m.vars.length gc,.slice pa m.procs.length pc,.slice ba m.body.length bc] (.slice oa own.length oc) so f2 w4:=by
      rw[List.foldl_append,fndX m own Sn _ _ zn,fndX m own Sn _ _ zn,<-yC,<-hf2]at hI4
      exact hI4
     have hx4':Ext fb wz w4:=(Ext.of_below (zb _ _)).trans hx4
     have hc4:=(hx4'.block b2 (zc HCZ.out) hb2f).trans HCZ.out
     have hr4:w4.heap[rb]?=some (.cells #[.int .i64 0,.int .i64 0] 30 (0,0)):=(hx4'.block rb (Nat.lt_of_lt_of_le (zc HRq.out) HXz.out.size) hrf).trans ((HXz.out.block rb (zc HRq.out) hrf).trans HRq.out)
     have HF2:=zh hf2
     have HI4:=zh hI4'
     have HR4:=zh hr4
     clear hI4 hI4' hx4 HC y3 y4 hl2 hfz hr4 hf2
     have y5:w4.cell? ⟨b2,5,none⟩=some (.slice ta s.thn.length tc):=za hc4
     have y6:w4.cell? ⟨b2,6,none⟩=some (.slice ea s.els.length ec):=za hc4
     have hl2:=zc hc4
     clear hc4 hx4'
     obtain⟨f3,hf3⟩:∃ f3,f3=fnd (Tp.judge m own Sn) (Tp.rs s.thn) f2:=⟨_,rfl⟩
     obtain⟨f4,hf4⟩:∃ f4,f4=fnd (Tp.judge m own Sn) (Tp.rs s.els) f3:=⟨_,rfl⟩
     have HF3:=zh hf3
     have HF4:=zh hf4
     clear hf3 hf4
     obtain⟨a2,q2⟩:=f2
     obtain⟨a3,q3⟩:=f3
     obtain⟨a4,q4⟩:=f4
     go_wp2_with fail
     clear y5 y6 hl2
     go_loopg [15,55] 2 (fun k _v15 vj wr=>∃(j:Nat) (f:Int× Int),j<=2/\k=2 - j/\vj=.int .i64 (j:Int)/\(j=0/\f=(a2,q2)\/j=1/\f=(a3,q3)\/j=2/\f=(a4,q4))/\Hid (LkI wJ fb mb ob sb #[.string (bs m.name),.slice ia m.imports.length ic,.slice ga m.vars.length gc,.slice pa m.procs.length pc,.slice ba m.body.length bc] (.slice oa own.length oc) so f wr)/\Hid (Ext fb w4 wr))
     case atStart=>exact⟨0,(a2,q2),by omega,by omega,rfl,by simp,HI4,Ext.refl _ _⟩
     case round =>
      obtain⟨j,f,hjd,hkj,rfl,hjf,HL5,HX5⟩:=hrel
      rcases hjf with⟨rfl,rfl⟩|⟨rfl,rfl⟩|⟨rfl,rfl⟩
      ·have hix0:=fun w=>ix2_0 ta ea s.thn.length tc s.els.length ec w
       have k0:wr.cell? ⟨fb,0,none⟩=some (.int .i64 a2):=za HL5.out.fbk
       have k1:wr.cell? ⟨fb,1,none⟩=some (.int .i64 q2):=za HL5.out.fbk
       have hfl:=zc HL5.out.fbk
       have g0:wr.cell? ⟨0,0,none⟩=some (.int .i64 0):=(HL5.out.bel.cell (p:=⟨0,0,none⟩) (zi HFN.out.1)).trans HFN.out.1
       have g1:wr.cell? ⟨0,1,none⟩=some (.int .i64 (-1)):=(HL5.out.bel.cell (p:=⟨0,1,none⟩) (zi HFN.out.2)).trans HFN.out.2
       have hgl:=zi g0
       by_cases hff:a2=0/\q2=-1
       ·have HFP:Hid ((a2,q2)=((0,-1):Int× Int)):=by show _=_;rw[hff.1,hff.2]
        rw[hff.1]at k0
        rw[hff.2]at k1
        have HC:=zh (HT.out wr HL5.out.bel)
        have e0:wr.cell? ⟨mb,0,none⟩=some (.string (bs m.name)):=za HL5.out.mbk
        have e1:wr.cell? ⟨mb,1,none⟩=some (.slice ia m.imports.length ic):=za HL5.out.mbk
        have e2:wr.cell? ⟨mb,2,none⟩=some (.slice ga m.vars.length gc):=za HL5.out.mbk
        have e3:wr.cell? ⟨mb,3,none⟩=some (.slice pa m.procs.length pc):=za HL5.out.mbk
        have e4:wr.cell? ⟨mb,4,none⟩=some (.slice ba m.body.length bc):=za HL5.out.mbk
        have o0:wr.cell? ⟨ob,0,none⟩=some (.slice oa own.length oc):=za HL5.out.obk
        have s0:wr.cell? ⟨sb,0,none⟩=some (.map so):=za HL5.out.sbk
        have hml:=zc HL5.out.mbk
        have hol:=zc HL5.out.obk
        have hsl:=zc HL5.out.sbk
        clear hff
        go_wp2_with fail
        refine HC.out.mono ?_
        rintro e w6 ⟨hjd,hb6⟩
        unfold JdP at hjd
        subst hjd
        obtain⟨c1,c2,hcc⟩:∃ c1 c2,ftC ((Tp.rs s.thn).findSome? (Tp.judge m own Sn))=(c1,c2):=⟨_,_,rfl⟩
        rw[hcc]
        have hk6:=(hb6.block fb (zc HL5.out.fbk)).trans HL5.out.fbk
        have kr:∀ i,w6.cell? ⟨fb,i,none⟩=(#[.int .i64 a2,.int .i64 q2]:Array Value)[i]?:=fun i=>za hk6
        have zr:∀ i,w6.frozen? ⟨fb,i,none⟩=false:=fun i=>zg hk6
        have hrl:=zc hk6
        have hx6:Ext fb wr ((w6.setCell ⟨fb,0,none⟩ (.int .i64 c1)).setCell ⟨fb,1,none⟩ (.int .i64 c2)):=((Ext.of_below hb6).set 0 _).set 1 _
        have HL6:Hid (LkI wJ fb mb ob sb #[.string (bs m.name),.slice ia m.imports.length ic,.slice ga m.vars.length gc,.slice pa m.procs.length pc,.slice ba m.body.length bc] (.slice oa own.length oc) so (c1,c2) ((w6.setCell ⟨fb,0,none⟩ (.int .i64 c1)).setCell ⟨fb,1,none⟩ (.int .i64 c2))):=HL5.out.ext hx6 (by have:=zu 1 (.int .i64 c2) (zu 0 (.int .i64 c1) hk6);simpa using this)
        have HF6:Hid (((c1,c2):Int× Int)=(a3,q3)):=by
         show _=_
         rw[<-hcc,HF3.out,HFP.out,kP (yE m own Sn)]
        have HX6:=zh (HX5.out.trans hx6)
        clear hk6 hb6 HC hx6 e0 e1 e2 e3 e4 o0 s0 hml hol hsl k0 k1 g0 g1 hgl hfl hcc
        go_wp2_with fail
        go_roundg (2 - (0+1))
        case measure=>omega
        case rel=>exact⟨0+1,(a3,q3),by omega,rfl,by go_num,by simp,by rw[<-HF6.out];exact HL6,HX6⟩
       ·have HF6:Hid (((a3,q3):Int× Int)=(a2,q2)):=by
         show _=_
         rw[HF3.out]
         exact kO _ _ _ (fun e=>hff (by simpa using e))
        have hd:(decide (a2=0) && decide (q2=-1))=false:=by
         rw[Bool.and_eq_false_iff]
         by_cases a:a2=0
         ·exact Or.inr (by simp;exact fun q=>hff ⟨a,q⟩)
         ·exact Or.inl (by simp[a])
        go_wp2_with fail
        all_goals
         go_roundg (2 - (0+1))
         case measure=>omega
         case rel=>exact⟨0+1,(a3,q3),by omega,rfl,by go_num,by simp,by rw[HF6.out];exact HL5,HX5⟩
      ·have hix1:=fun w=>ix2_1 ta ea s.thn.length tc s.els.length ec w
       have k0:wr.cell? ⟨fb,0,none⟩=some (.int .i64 a3):=za HL5.out.fbk
       have k1:wr.cell? ⟨fb,1,none⟩=some (.int .i64 q3):=za HL5.out.fbk
       have hfl:=zc HL5.out.fbk
       have g0:wr.cell? ⟨0,0,none⟩=some (.int .i64 0):=(HL5.out.bel.cell (p:=⟨0,0,none⟩) (zi HFN.out.1)).trans HFN.out.1
       have g1:wr.cell? ⟨0,1,none⟩=some (.int .i64 (-1)):=(HL5.out.bel.cell (p:=⟨0,1,none⟩) (zi HFN.out.2)).trans HFN.out.2
       have hgl:=zi g0
       by_cases hff:a3=0/\q3=-1
       ·have HFP:Hid ((a3,q3)=((0,-1):Int× Int)):=by show _=_;rw[hff.1,hff.2]
        rw[hff.1]at k0
        rw[hff.2]at k1
        have HC:=zh (HE.out wr HL5.out.bel)
        have e0:wr.cell? ⟨mb,0,none⟩=some (.string (bs m.name)):=za HL5.out.mbk
        have e1:wr.cell? ⟨mb,1,none⟩=some (.slice ia m.imports.length ic):=za HL5.out.mbk
        have e2:wr.cell? ⟨mb,2,none⟩=some (.slice ga m.vars.length gc):=za HL5.out.mbk
        have e3:wr.cell? ⟨mb,3,none⟩=some (.slice pa m.procs.length pc):=za HL5.out.mbk
        have e4:wr.cell? ⟨mb,4,none⟩=some (.slice ba m.body.length bc):=za HL5.out.mbk
        have o0:wr.cell? ⟨ob,0,none⟩=some (.slice oa own.length oc):=za HL5.out.obk
        have s0:wr.cell? ⟨sb,0,none⟩=some (.map so):=za HL5.out.sbk
        have hml:=zc HL5.out.mbk
        have hol:=zc HL5.out.obk
        have hsl:=zc HL5.out.sbk
        clear hff
        go_wp2_with fail
        refine HC.out.mono ?_
        rintro e w6 ⟨hjd,hb6⟩
        unfold JdP at hjd
        subst hjd
        obtain⟨c1,c2,hcc⟩:∃ c1 c2,ftC ((Tp.rs s.els).findSome? (Tp.judge m own Sn))=(c1,c2):=⟨_,_,rfl⟩
        rw[hcc]
        have hk6:=(hb6.block fb (zc HL5.out.fbk)).trans HL5.out.fbk
        have kr:∀ i,w6.cell? ⟨fb,i,none⟩=(#[.int .i64 a3,.int .i64 q3]:Array Value)[i]?:=fun i=>za hk6
        have zr:∀ i,w6.frozen? ⟨fb,i,none⟩=false:=fun i=>zg hk6
        have hrl:=zc hk6
        have hx6:Ext fb wr ((w6.setCell ⟨fb,0,none⟩ (.int .i64 c1)).setCell ⟨fb,1,none⟩ (.int .i64 c2)):=((Ext.of_below hb6).set 0 _).set 1 _
        have HL6:Hid (LkI wJ fb mb ob sb #[.string (bs m.name),.slice ia m.imports.length ic,.slice ga m.vars.length gc,.slice pa m.procs.length pc,.slice ba m.body.length bc] (.slice oa own.length oc) so (c1,c2) ((w6.setCell ⟨fb,0,none⟩ (.int .i64 c1)).setCell ⟨fb,1,none⟩ (.int .i64 c2))):=HL5.out.ext hx6 (by have:=zu 1 (.int .i64 c2) (zu 0 (.int .i64 c1) hk6);simpa using this)
        have HF6:Hid (((c1,c2):Int× Int)=(a4,q4)):=by
         show _=_
         rw[<-hcc,HF4.out,HFP.out,kP (yE m own Sn)]
        have HX6:=zh (HX5.out.trans hx6)
        clear hk6 hb6 HC hx6 e0 e1 e2 e3 e4 o0 s0 hml hol hsl k0 k1 g0 g1 hgl hfl hcc
        go_wp2_with fail
        go_roundg (2 - (1+1))
        case measure=>omega
        case rel=>exact⟨1+1,(a4,q4),by omega,rfl,by go_num,by simp,by rw[<-HF6.out];exact HL6,HX6⟩
       ·have HF6:Hid (((a4,q4):Int× Int)=(a3,q3)):=by
         show _=_
         rw[HF4.out]
         exact kO _ _ _ (fun e=>hff (by simpa using e))
        have hd:(decide (a3=0) && decide (q3=-1))=false:=by
         rw[Bool.and_eq_false_iff]
         by_cases a:a3=0
         ·exact Or.inr (by simp;exact fun q=>hff ⟨a,q⟩)
         ·exact Or.inl (by simp[a])
        go_wp2_with fail
        all_goals
         go_roundg (2 - (1+1))
         case measure=>omega
         case rel=>exact⟨1+1,(a4,q4),by omega,rfl,by go_num,by simp,by rw[HF6.out];exact HL5,HX5⟩
      ·have HALL:Hid (fnd (Tp.judge m own Sn) (Tp.rs [s]) (0,-1)=(a4,q4)):=by
        show _=_
        rw[rs_s,yC,yC,List.append_assoc,yC,<-HF1.out,<-HF2.out,<-HF3.out,<-HF4.out]
       have HR5:Hid (wr.heap[rb]?=some (.cells #[.int .i64 0,.int .i64 0] 30 (0,0))):=(HX5.out.block rb (zc HR4.out) hrf).trans HR4.out
       have k0:wr.cell? ⟨fb,0,none⟩=some (.int .i64 a4):=za HL5.out.fbk
       have k1:wr.cell? ⟨fb,1,none⟩=some (.int .i64 q4):=za HL5.out.fbk
       have hfl:=zc HL5.out.fbk
       have g0:wr.cell? ⟨0,0,none⟩=some (.int .i64 0):=(HL5.out.bel.cell (p:=⟨0,0,none⟩) (zi HFN.out.1)).trans HFN.out.1
       have g1:wr.cell? ⟨0,1,none⟩=some (.int .i64 (-1)):=(HL5.out.bel.cell (p:=⟨0,1,none⟩) (zi HFN.out.2)).trans HFN.out.2
       have hgl:=zi g0
       by_cases hff:a4=0/\q4=-1
       ·have HN2:Hid (fnd (Tp.judge m own Sn) (Tp.rs (l.take (i+1))) (0,-1)=(0,-1)):=by
         show _=_
         rw[ug hlt,yC,HN.out,<-HSI.out,HALL.out,hff.1,hff.2]
        obtain⟨rfl,rfl⟩:=hff
        go_wp2_with fail
        go_roundg (l.length - (i+1))
        case measure=>omega
        case rel=>exact⟨i+1,by omega,rfl,by go_num,HL5,HR5,HN2⟩
       ·by_cases ha:a4=0
        ·subst ha
         have hq:¬q4=-1:=fun q=>hff ⟨rfl,q⟩
         have HQ:Hid (((0:Int),(q4:Int))=ftC ((Tp.rs l).findSome? (Tp.judge m own Sn))):=by
          show _=_
          rw[<-kP (yE m own Sn)]
          conv=>rhs;rw[<-List.take_append_drop (i+1) l,rs_app,yC,ug hlt,yC,HN.out,<-HSI.out,HALL.out]
          exact(kO _ _ _ (fun e=>hff (by simpa using e))).symm
         have HF:Hid (Below wJ.heap.size wJ ((wr.setCell ⟨rb,0,none⟩ (.int .i64 0)).setCell ⟨rb,1,none⟩ (.int .i64 q4))):=zj (zj HL5.out.bel hrw 0 _) hrw 1 _
         have kr:∀ i,wr.cell? ⟨rb,i,none⟩=(#[.int .i64 0,.int .i64 0]:Array Value)[i]?:=fun i=>za HR5.out
         have zr:∀ i,wr.frozen? ⟨rb,i,none⟩=false:=fun i=>zg HR5.out
         have hrl:=zc HR5.out
         go_wp2_with fail
         exact bodyPost_ret (v:=.agg #[.int .i64 0,.int .i64 q4]) (by simp[results,Tryz.results80,go_sem,kr]) rfl ⟨yw HQ.out,HF.out⟩
        ·skip
         have HQ:Hid (((a4:Int),(q4:Int))=ftC ((Tp.rs l).findSome? (Tp.judge m own Sn))):=by
          show _=_
          rw[<-kP (yE m own Sn)]
          conv=>rhs;rw[<-List.take_append_drop (i+1) l,rs_app,yC,ug hlt,yC,HN.out,<-HSI.out,HALL.out]
          exact(kO _ _ _ (fun e=>hff (by simpa using e))).symm
         have HF:Hid (Below wJ.heap.size wJ ((wr.setCell ⟨rb,0,none⟩ (.int .i64 a4)).setCell ⟨rb,1,none⟩ (.int .i64 q4))):=zj (zj HL5.out.bel hrw 0 _) hrw 1 _
         have kr:∀ i,wr.cell? ⟨rb,i,none⟩=(#[.int .i64 0,.int .i64 0]:Array Value)[i]?:=fun i=>za HR5.out
         have zr:∀ i,wr.frozen? ⟨rb,i,none⟩=false:=fun i=>zg HR5.out
         have hrl:=zc HR5.out
         go_wp2_with fail
         exact bodyPost_ret (v:=.agg #[.int .i64 a4,.int .i64 q4]) (by simp[results,Tryz.results80,go_sem,kr]) rfl ⟨yw HQ.out,HF.out⟩
  ·have hlt':¬(i:Int)<(l.length:Int):=by omega
   have k0:wr.cell? ⟨fb,0,none⟩=some (.int .i64 0):=za HL.out.fbk
   have k1:wr.cell? ⟨fb,1,none⟩=some (.int .i64 (-1)):=za HL.out.fbk
   have hfl:=zc HL.out.fbk
   have HQ:Hid (((0:Int),((-1):Int))=ftC ((Tp.rs l).findSome? (Tp.judge m own Sn))):=by
    show _=_
    rw[<-kP (yE m own Sn)]
    have:=HN.out
    rw[show i=l.length by omega,List.take_length]at this
    rw[this]
   have HF:Hid (Below wJ.heap.size wJ ((wr.setCell ⟨rb,0,none⟩ (.int .i64 0)).setCell ⟨rb,1,none⟩ (.int .i64 (-1)))):=zj (zj HL.out.bel hrw 0 _) hrw 1 _
   have kr:∀ i,wr.cell? ⟨rb,i,none⟩=(#[.int .i64 0,.int .i64 0]:Array Value)[i]?:=fun i=>za HR.out
   have zr:∀ i,wr.frozen? ⟨rb,i,none⟩=false:=fun i=>zg HR.out
   have hrl:=zc HR.out
   go_wp2_with fail
   exact bodyPost_ret (v:=.agg #[.int .i64 0,.int .i64 (-1)]) (by simp[results,Tryz.results80,go_sem,kr]) rfl ⟨yw HQ.out,HF.out⟩
theorem wx_md {y:X}(h:Tp.WX [y]):y.mod.length<=1000000:=by
 obtain⟨code,pos,n,md,nm,op,le,ri,ar⟩:=y
 rw[Tp.WX]at h
 simp only
 rcases h.1 with⟨rfl,h1,rfl,rfl,rfl,rfl,rfl,rfl⟩|⟨rfl,rfl,h2,rfl,rfl,rfl,rfl⟩|⟨rfl,rfl,h2,rfl,h3,h4,rfl,rfl⟩|⟨rfl,rfl,rfl,rfl,h2,h3,h4,rfl,rfl⟩|⟨rfl,rfl,rfl,rfl,h2,h3,h4,h5,h6,rfl⟩|⟨rfl,rfl,h2,rfl,rfl,rfl,h3⟩
 ·simp
 ·exact(Tp.okr_len h2).1
 ·exact(Tp.okr_len h2).1
 ·simp
 ·simp
 ·exact(Tp.okr_len h2).1
theorem vis_of {m:Tp.M}{wJ:World}{fb mb ob sb:Nat}{ia ga pa ba oa:Option Addr}{ic gc pc bc oc:Nat}(h:MB wJ wJ.heap.size m ia ga pa ba ic gc pc bc) (hs:m.imports.length<=1000/\m.vars.length<=1000/\m.procs.length<=1000/\∀ p∈m.procs,p.params.length<=1000) {own:List (List UInt8)}(hO:Row wJ (fun b=>b<wJ.heap.size) 9 1 (.slice oa own.length oc) own.length (strs own)) (hol:own.length<=1000)
  {so:Option Nat} {Sn:Seen} (hS:SeenV wJ (.map so) Sn) (hfine:wJ.cell? ⟨0,0,none⟩=some (.int .i64 0)/\wJ.cell? ⟨0,1,none⟩=some (.int .i64 (-1))) :
  Vis (fun f W=>LkI wJ fb mb ob sb (mcells (bs m.name) (.slice ia m.imports.length ic) (.slice ga m.vars.length gc) (.slice pa m.procs.length pc) (.slice ba m.body.length bc)) (.slice oa own.length oc) so f W) (fun y f=>stpF (jdN m own Sn (refOf y)) f) fb 132 fb mb ob sb where
 on:=fun hI hb=>hI.on hb
 does:=fun {s W D x y} hI hr hw=>by
  have hmd:=wx_md hw
  obtain⟨code,pos,n,md,nm,op,le,ri,ar⟩:=y
  obtain⟨av,ls,rs,gs,hb,_,_,har,hav⟩:=hr.unit
  obtain⟨hgn,aa,ac,rfl,_⟩:=hav.shape
  have hgl:=RepL.len _ _ har
  rw[hgl]at hgn hb
  exact look_vis h hs hO hol hS hfine hI hmd hgn hb
theorem ja_code {l:List S}(h:Tp.WS l):∀ i (hi:i<l.length),l[i].code<=1000:=by
 induction l with
 | nil=>intro i hi;simp at hi
 | cons s l ih =>
  intro i hi
  obtain⟨code,pos,nm,ix,v,th,el⟩:=s
  rw[Tp.WS]at h
  cases i with
  | zero =>
   show code<=1000
   rcases h.1 with q|q|q|q|q
   ·omega
   ·omega
   ·omega
   ·omega
   ·omega
  | succ i=>exact ih h.2 i (by simpa using hi)
theorem ws_n:∀(l:List S),Tp.WS l->∀ i (h:i<l.length),Tp.WS [l[i]]:=by
 intro l
 induction l with
 | nil=>intro _ i h;simp at h
 | cons x l ih =>
  intro hw i h
  obtain⟨code,pos,nm,ix,v,th,el⟩:=x
  rw[Tp.WS]at hw
  cases i with
  | zero =>
   show Tp.WS [⟨code,pos,nm,ix,v,th,el⟩]
   rw[Tp.WS]
   exact⟨hw.1,by rw[Tp.WS];trivial⟩
  | succ i=>exact ih hw.2 i (by simpa using h)
theorem ws_parts {s:S}(h:Tp.WS [s]):(s.index=[]\/∃ z,s.index=[z]/\Tp.WX [z])/\(s.value=[]\/∃ z,s.value=[z]/\Tp.WX [z])/\Tp.WS s.thn/\Tp.WS s.els:=by
 obtain⟨code,pos,nm,ix,v,th,el⟩:=s
 rw[Tp.WS]at h
 simp only
 rcases h.1 with⟨rfl,_,a2,a3,rfl,rfl⟩|⟨rfl,rfl,rfl,a3,a4,a5⟩|⟨rfl,rfl,rfl,a3,a4,rfl⟩|⟨hc,rfl,rfl,a3,rfl,rfl⟩|⟨rfl,rfl,rfl,a3,_,rfl,rfl⟩
 ·exact⟨a2.imp id fun q=>jW q.2.1 q.1,Or.inr (optW a3),Tp.WS_nil,Tp.WS_nil⟩
 ·exact⟨Or.inl rfl,Or.inr (optW a3),a4,a5⟩
 ·exact⟨Or.inl rfl,Or.inr (optW a3),a4,Tp.WS_nil⟩
 ·exact⟨Or.inl rfl,Or.inr (optW a3),Tp.WS_nil,Tp.WS_nil⟩
 ·exact⟨Or.inl rfl,Or.inr (optW a3),Tp.WS_nil,Tp.WS_nil⟩
theorem jk {m:Tp.M}(hs:m.imports.length<=1000/\m.vars.length<=1000/\m.procs.length<=1000/\∀ p∈m.procs,p.params.length<=1000) {own:List (List UInt8)}(hol:own.length<=1000) {Sn:Seen}{ia ga pa ba oa:Option Addr}{ic gc pc bc oc:Nat}{so:Option Nat} :
  ∀(N:Nat) (l:List S),SizeOf.sizeOf l<=N->Tp.WS l->∀(wJ:World) (D:Nat->Prop) (v:Value) (cs:List Value),MB wJ wJ.heap.size m ia ga pa ba ic gc pc bc->Row wJ (fun b=>b<wJ.heap.size) 9 1 (.slice oa own.length oc) own.length (strs own)->SeenV wJ (.map so) Sn->(wJ.cell? ⟨0,0,none⟩=some (.int .i64 0)/\wJ.cell? ⟨0,1,none⟩=some (.int .i64 (-1)))->RepS wJ D l cs->OwnS wJ D v l.length cs ->
  Calls Tryz.prog 80 #[.agg (mcells (bs m.name) (.slice ia m.imports.length ic) (.slice ga m.vars.length gc) (.slice pa m.procs.length pc) (.slice ba m.body.length bc)),.slice oa own.length oc,.map so,v] wJ fun e w'=>JdP ((Tp.rs l).findSome? (Tp.judge m own Sn)) e/\Below wJ.heap.size wJ w':=by
 intro N
 induction N with
 | zero=>intro l h;cases l <;> simp at h <;> omega
 | succ N ih =>
  intro l hl hw wJ D v cs h hO hS hfine hr ho
  obtain⟨hlen,aa,ac,rfl⟩:=ho.long
  have hst:∀ W,Below wJ.heap.size wJ W->MB W W.heap.size m ia ga pa ba ic gc pc bc/\Row W (fun b=>b<W.heap.size) 9 1 (.slice oa own.length oc) own.length (strs own)/\SeenV W (.map so) Sn/\(W.cell? ⟨0,0,none⟩=some (.int .i64 0)/\W.cell? ⟨0,1,none⟩=some (.int .i64 (-1))):=fun W hW=>by
   have hk:∀ b,b<wJ.heap.size->b<wJ.heap.size->W.heap[b]?=wJ.heap[b]?/\b<W.heap.size:=fun b hi _=>⟨hW.block b hi,Nat.lt_of_lt_of_le hi hW.size⟩
   obtain⟨pcs,p1,p2⟩:=h.pr
   obtain⟨bcs,b1,b2⟩:=h.bd
   exact⟨⟨h.im.mono hk,h.gl.mono hk,⟨pcs,p1.mono hk _ _,p2.mono hk⟩,⟨bcs,b1.mono' hk,b2.mono hk⟩⟩,hO.mono hk,hS.on hW,(hW.cell (p:=⟨0,0,none⟩) (zi hfine.1)).trans hfine.1,(hW.cell (p:=⟨0,1,none⟩) (zi hfine.2)).trans hfine.2⟩
  refine ja_walk hlen (ja_code hw) (fun fb mb ob sb=>vis_of h hs hO hol hS hfine) (fun hI hx=>look_vis h hs hO hol hS hfine hI (md:=[]) (by simp) (by omega) hx) hfine fun i hi=>?_
  obtain⟨tv,ev,ls,vs,tcs,ecs,q0,q1,_,q3,_,q5,q6,q7,q8⟩:=RepS.nth l cs hr i hi
  obtain⟨g,g1,g2,g3⟩:=ho.at' i hi
  obtain⟨t0,ta,tc,rfl⟩:=q6.long
  obtain⟨e0,ea,ec,rfl⟩:=q8.long
  obtain⟨xa,e1⟩:=q1.headP
  obtain⟨va,e2⟩:=q3.headP
  obtain⟨z1,z2,z3,z4⟩:=ws_parts (ws_n l hw i hi)
  have hsz:SizeOf.sizeOf l[i]<SizeOf.sizeOf l:=List.sizeOf_lt_of_mem (List.getElem_mem hi)
  obtain⟨hs2,hs3⟩:=sizeS l[i]
  have hmr:∀ {lx:List X} {us:List Value},RepL wJ D lx us->RepL wJ (fun b=>b<wJ.heap.size) lx us:=fun {lx us} q=>RepL.mono (fun b _ hl=>⟨rfl,hl⟩) (SizeOf.sizeOf lx) lx us zn q
  refine⟨g,ls,vs,xa,va,ta,ea,tc,ec,g1,g2,fun j hj=>?_,hmr q1,hmr q3,e1,e2,z1,z2,fun W hW=>?_,fun W hW=>?_⟩
  ·rw[g3 j hj,q0 j hj,e1,e2]
  ·obtain⟨k1,k2,k3,k4⟩:=hst W hW
   exact ih l[i].thn (by omega) z3 W D _ tcs k1 k2 k3 k4 (q5.step' hW) (q6.step' hW)
  ·obtain⟨k1,k2,k3,k4⟩:=hst W hW
   exact ih l[i].els (by omega) z4 W D _ ecs k1 k2 k3 k4 (q7.step' hW) (q8.step' hW)
end Go.Proofs.YthnoedjbhbkdeaaGreatDoor
namespace Go.Proofs.YthnoedjbhbkdeaaGreatDoor
open Go.RowKit Go.Sort
open Tp (Bs Th Sy Seen X S G Pr Ck)
def srJ (m:Tp.M) (Sn:Seen) (i:Nat):Ck:=match m.procs[i]? with
 | some p=>(Tp.rs p.body).findSome? (Tp.judge m (Tp.ownOf p) Sn)
 | none=>none
theorem srJ_bad {m:Tp.M}{Sn:Seen}(i:Nat) (c:Nat× Option Nat) (h:srJ m Sn i=some c):ftC (some c)≠(0,-1):=by
 unfold srJ at h
 split at h
 ·obtain⟨r,_,hr⟩:=List.exists_of_findSome?_eq_some h
  exact yE m _ Sn r c hr
 ·cases h
theorem checkres (m:Tp.M) (Sn:Seen):ResC (Tp.check m Sn) (Tp.imps m.name Sn [] m.imports) (Tp.twr (Tp.things m) 0) ((List.range m.procs.length).findSome? fun i=>(Tp.twr (olOf m i) 0).or (srJ m Sn i)) ((Tp.rs m.body).findSome? (Tp.judge m [] Sn)):=by
 unfold ResC Tp.check
 have e1:m.vars.map (fun g=>(g.name,g.pos))++m.procs.map (fun p=>(p.name,p.pos))=(Tp.things m).map Tp.keyT:=by simp[Tp.things,Tp.keyT,Tp.thG,Tp.thP,Function.comp_def]
 rw[e1,Tp.twr_zero,Tp.find_idx]
 congr 4
 funext i
 unfold olOf srJ
 cases m.procs[i]? with
 | none=>rfl
 | some p =>
  show Tp.checkP m Sn p=_
  unfold Tp.checkP
  rw[Tp.twr_zero]
  have e2:(Tp.ownOf p).map (fun n=>(n,p.pos))=(Tp.ownT p).map Tp.keyT:=by simp[Tp.ownT,Tp.keyT]
  rw[e2]
theorem ul {m:Tp.M}(hm:Tp.WM m) {w:World}{ia ga pa ba:Option Addr}{ic gc pc bc:Nat}(h:MB w w.heap.size m ia ga pa ba ic gc pc bc) {so:Option Nat}{Sn:Seen}(hS:SeenV w (.map so) Sn) (hfine:w.cell? ⟨0,0,none⟩=some (.int .i64 0)/\w.cell? ⟨0,1,none⟩=some (.int .i64 (-1))) :
  Calls Tryz.prog 28 #[.agg (mcells (bs m.name) (.slice ia m.imports.length ic) (.slice ga m.vars.length gc) (.slice pa m.procs.length pc) (.slice ba m.body.length bc)),.map so] w fun e w'=>JdP (Tp.check m Sn) e/\Below w.heap.size w w':=by
 have hs:=hm.sml
 have hsz:m.imports.length<=1000/\m.vars.length<=1000/\m.procs.length<=1000/\∀ p∈m.procs,p.params.length<=1000:=⟨hs.ic,hs.gc,hs.pc,fun p hp=>(hs.p p hp).2.1⟩
 have hpp:∀ i (hi:i<m.procs.length),∃(g:Nat) (pa' va ba':Option Addr) (pc' vc bc':Nat) (bcs:List Value),pa=some ⟨g,0,none⟩/\g<w.heap.size/\(∀ j,j<6->w.cell? ⟨g,i * 6+j,none⟩=(pcells (bs m.procs[i].name) (m.procs[i].pos:Int) m.procs[i].seen (.slice pa' m.procs[i].params.length pc') (.slice va m.procs[i].vars.length vc) (.slice ba' m.procs[i].body.length bc')).toList[j]?) /\
   Row w (fun b=>b<w.heap.size) 9 1 (.slice pa' m.procs[i].params.length pc') m.procs[i].params.length (strs m.procs[i].params)/\Row w (fun b=>b<w.heap.size) 9 1 (.slice va m.procs[i].vars.length vc) m.procs[i].vars.length (strs m.procs[i].vars)/\RepS w (fun b=>b<w.heap.size) m.procs[i].body bcs/\OwnS w (fun b=>b<w.heap.size) (.slice ba' m.procs[i].body.length bc') m.procs[i].body.length bcs:=by
  intro i hi
  obtain⟨pcs,p1,p2⟩:=h.pr
  obtain⟨g,cap,q1,q2,q3,q4⟩:=yu p2 (by omega)
  cases q1
  obtain⟨pv,vv,bv,bcs',r1,r2,r3,r4,r5⟩:=jo m.procs pcs p1 i hi
  obtain⟨y3,c3,rfl⟩:=r2.shape
  obtain⟨y4,c4,rfl⟩:=r3.shape
  obtain⟨y5,c5,rfl⟩:=r5.shape
  exact⟨g,y3,y4,y5,c3,c4,c5,bcs',rfl,q2,fun j hj=>(q4 (i * 6+j) (by omega)).trans (r1 j hj),r2,r3,r4,r5⟩
 have hst:∀ W,Below w.heap.size w W->MB W W.heap.size m ia ga pa ba ic gc pc bc/\SeenV W (.map so) Sn/\(W.cell? ⟨0,0,none⟩=some (.int .i64 0)/\W.cell? ⟨0,1,none⟩=some (.int .i64 (-1))):=fun W hW=>by
  have hk:∀ b,b<w.heap.size->b<w.heap.size->W.heap[b]?=w.heap[b]?/\b<W.heap.size:=fun b hi _=>⟨hW.block b hi,Nat.lt_of_lt_of_le hi hW.size⟩
  obtain⟨pcs,p1,p2⟩:=h.pr
  obtain⟨bcs,b1,b2⟩:=h.bd
  exact⟨⟨h.im.mono hk,h.gl.mono hk,⟨pcs,p1.mono hk _ _,p2.mono hk⟩,⟨bcs,b1.mono' hk,b2.mono hk⟩⟩,hS.on hW,(hW.cell (p:=⟨0,0,none⟩) (zi hfine.1)).trans hfine.1,(hW.cell (p:=⟨0,1,none⟩) (zi hfine.2)).trans hfine.2⟩
 refine uk (is:=m.imports) (Sn:=Sn) (tl:=Tp.things m) (ol:=olOf m) (sr:=srJ m Sn) (br:=(Tp.rs m.body).findSome? (Tp.judge m [] Sn)) hfine h.im hs.im hs.ic hS ?_ ?_ (by simp[Tp.things]) hs.gc hs.pc ?_ srJ_bad ?_ (checkres m Sn)
 ·intro i hi
  have hgl:=h.gl
  obtain⟨g,cap,q1,q2,q3,q4⟩:=yu hgl (by omega)
  cases q1
  have hc:=fun j (hj:j<4)=>(q4 (i * 4+j) (by omega)).trans (xJ m.vars i hi j hj)
  refine⟨g,m.vars[i].name,m.vars[i].pos,m.vars[i].len,m.vars[i].seen,rfl,q3,hc 0 (by omega),hc 1 (by omega),hc 2 (by omega),hc 3 (by omega),hs.g _ (List.getElem_mem hi),?_⟩
  unfold Tp.things
  rw[List.getElem?_append_left (by simpa using hi)]
  simp[hi,Tp.thG]
 ·intro i hi
  obtain⟨g,y3,y4,y5,c3,c4,c5,bcs,q1,q2,q3,_⟩:=hpp i hi
  refine⟨g,m.procs[i].name,m.procs[i].pos,m.procs[i].seen,y3,y4,y5,m.procs[i].params.length,m.procs[i].vars.length,m.procs[i].body.length,c3,c4,c5,q1,q2,q3 0 (by omega),q3 1 (by omega),q3 2 (by omega),q3 3 (by omega),q3 4 (by omega),q3 5 (by omega),(hs.p _ (List.getElem_mem hi)).1,?_⟩
  unfold Tp.things
  rw[List.getElem?_append_right (by simp)]
  simp[hi,Tp.thP]
 ·intro i hi
  obtain⟨g,y3,y4,y5,c3,c4,c5,bcs,q1,q2,q3,q4,q5,q6,q7⟩:=hpp i hi
  have hmp:=hs.p _ (List.getElem_mem hi)
  have hwp:=hm.p _ (List.getElem_mem hi)
  have hsr:srJ m Sn i=(Tp.rs m.procs[i].body).findSome? (Tp.judge m (m.procs[i].params++m.procs[i].vars) Sn):=by unfold srJ;rw[List.getElem?_eq_getElem hi];rfl
  refine⟨g,m.procs[i].name,m.procs[i].pos,m.procs[i].seen,y3,y4,y5,m.procs[i].params.length,m.procs[i].vars.length,m.procs[i].body.length,c3,c4,c5,m.procs[i].params,m.procs[i].vars,q1,q2,q3 0 (by omega),q3 1 (by omega),q3 2 (by omega),q3 3 (by omega),q3 4 (by omega),q3 5 (by omega),rfl,rfl,q4,q5,?_,?_,hmp.2.1,hmp.2.2.1,fun W oa oc hW hrow=>?_⟩
  ·unfold olOf
   rw[List.getElem?_eq_getElem hi]
   rfl
  ·intro x hx
   rcases List.mem_append.1 hx with q|q
   ·exact hmp.2.2.2.1 x q
   ·exact hmp.2.2.2.2.1 x q
  ·obtain⟨k1,k2,k3⟩:=hst W hW
   have hk:∀ b,b<w.heap.size->b<w.heap.size->W.heap[b]?=w.heap[b]?/\b<w.heap.size:=fun b hi _=>⟨hW.block b hi,hi⟩
   rw[hsr]
   rw[<-List.length_append]at hrow ⊢
   exact jk hsz (by rw[List.length_append];have:=hwp.c;omega) _ _ zn hwp.b W (fun b=>b<w.heap.size) _ bcs k1 hrow k2 k3 (q6.mono' hk) (q7.mono hk)
 ·intro W hW
  obtain⟨k1,k2,k3⟩:=hst W hW
  obtain⟨bcs,b1,b2⟩:=k1.bd
  exact jk hsz (own:=[]) (oa:=none) (oc:=0) (by simp) _ _ zn hm.b W (fun b=>b<W.heap.size) _ bcs k1 (Or.inl ⟨rfl,rfl,rfl⟩) k2 k3 b1 b2
end Go.Proofs.YthnoedjbhbkdeaaGreatDoor
