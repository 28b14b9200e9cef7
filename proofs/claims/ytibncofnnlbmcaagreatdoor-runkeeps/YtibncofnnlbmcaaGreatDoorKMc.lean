import Derived.Test.YtibncofnnlbmcaaGreatDoorKMb
import Derived.Deep.QuietTactic
import Derived.BigQuiet
set_option maxRecDepth 100000
set_option maxHeartbeats 4000000
namespace Go.Proofs.YtibncofnnlbmcaaGreatDoor
open Go.RowKit Go.Maps
open Tp (Bs Th Sy Seen)
abbrev Near:=List (Bs->Option (Nat×Int))
structure NearM (w:World) (sb:Nat) (fs:Near):Prop where
 lt:sb<w.heap.size
 c:∀i (h:i<fs.length),∃gb n,w.cell? ⟨sb,i,none⟩=some (.map (some gb))/\MapV w gb n (fun k=>(fs[i] k).map thV)
theorem NearM.on {w w':World}{a:Nat}{fs:Near}(h:NearM w a fs)(k:Below w.heap.size w w'):NearM w' a fs :=
 ⟨Nat.lt_of_lt_of_le h.lt k.size,fun i f=>by obtain⟨d,n,e,b⟩:=h.c i f;exact⟨d,n,(k.cell (p:=⟨a,i,none⟩) h.lt).trans e,b.on (k.block _ b.lt)⟩⟩
structure Fnd (w:World) (b:Nat) (S:Seen) (fs:Near):Prop where
 o:∃ob n,w.cell? ⟨b,0,none⟩=some (.map (some ob))/\SeenM w ob n S
 m:∃sb c,w.cell? ⟨b+1,0,none⟩=some (.slice (some ⟨sb,0,none⟩) fs.length c)/\NearM w sb fs
 l:b+1<w.heap.size
theorem Fnd.on {w w':World}{b:Nat}{S:Seen}{fs:Near}(h:Fnd w b S fs)(k:Below w.heap.size w w'):Fnd w' b S fs:=by
 obtain⟨ob,n,d,e⟩:=h.o
 obtain⟨i,c,f,g⟩:=h.m
 have a:=h.l
 exact⟨⟨ob,n,(k.cell (p:=⟨b,0,none⟩) (by simp;omega)).trans d,e.on k⟩,⟨i,c,(k.cell (p:=⟨b+1,0,none⟩) a).trans f,g.on k⟩,Nat.lt_of_lt_of_le a k.size⟩
def finderV (b:Nat):Value:=.func (.func 114) #[] #[.pointer (some ⟨b,0,none⟩),.pointer (some ⟨b+1,0,none⟩)]
theorem neq_bs (a:Bs):(bs a).toList.isEmpty=decide (a=[]):=by rw[zj];cases a<;>simp
theorem near_none {fs:Near}{nm:Bs}(h:∀j (a:j<fs.length),fs[j] nm=none):fs.findSome? (fun f=>f nm)=none:=by
 rw[List.findSome?_eq_none_iff]
 intro f b
 obtain⟨j,a,e⟩:=List.mem_iff_getElem.1 b
 rw[<-e]
 exact h j a
theorem near_some {fs:Near}{nm:Bs}{i:Nat}{x:Nat×Int}(c:i<fs.length)(h:∀j (a:j<fs.length),j<i->fs[j] nm=none)(d:fs[i] nm=some x):fs.findSome? (fun f=>f nm)=some x:=by
 have e:fs=fs.take i++fs[i] :: fs.drop (i+1):=by rw[<-List.drop_eq_getElem_cons c,List.take_append_drop]
 rw[e,List.findSome?_append,List.findSome?_cons,d]
 have:(fs.take i).findSome? (fun f=>f nm)=none:=by
  rw[List.findSome?_eq_none_iff]
  intro f b
  obtain⟨j,a,e⟩:=List.mem_iff_getElem.1 b
  rw[List.length_take]at a
  rw[List.getElem_take]at e
  rw[<-e]
  exact h j (by omega) (by omega)
 rw[this]
 rfl
theorem ui {w:World}{b:Nat}{S:Seen}{fs:Near}(h:Fnd w b S fs)(b4:fs.length<=1000)(md nm:Bs)(hl:md.length<=1000000)(a8:nm.length<=1000000) :
  Calls Tryz.prog 114 #[.string (bs md),.string (bs nm),.pointer (some ⟨b,0,none⟩),.pointer (some ⟨b+1,0,none⟩)] w fun e w'=>e=.returned (lookRes (Tp.standV S fs md nm))/\Below w.heap.size w w':=by
 have X:∀a4,Below w.heap.size w (w.alloc a4):=fun a4=>zb _ _
 obtain⟨a,u⟩:∃a,a=w.alloc (.cells #[.int .i64 0,.int .i64 0] 196):=⟨_,rfl⟩
 have J:Below w.heap.size w a:=by rw[u];exact X _
 have A:a.heap[w.heap.size]?=some (.cells #[.int .i64 0,.int .i64 0] 196 (0,0)):=by rw[u];exact zo _ _
 have O:w.heap.size<a.heap.size:=by rw[u];simp
 have Q:=h.on J
 have b3:=Q.l
 have b1:b<a.heap.size:=by omega
 have c0:a.cell? ⟨w.heap.size,0,none⟩=some (.int .i64 0):=(za A).trans rfl
 have c1:a.cell? ⟨w.heap.size,1,none⟩=some (.int .i64 0):=(za A).trans rfl
 have z0:a.frozen? ⟨w.heap.size,0,none⟩=false:=zi A
 have z1:a.frozen? ⟨w.heap.size,1,none⟩=false:=zi A
 have T:=zh J
 have V:=zh A
 obtain⟨ob,on,a9,N⟩:=Q.o
 obtain⟨R,sc,a1,M⟩:=Q.m
 have a2:=neq_bs md
 clear X h J A
 by_cases B:md=[]
 ·rw[decide_eq_true B]at a2
  have s:Hid (Tp.standV S fs md nm=match fs.findSome? (fun f=>f nm) with|some x=>.ok x|none=>.error 7):=by unfold Hid Tp.standV;rw[if_neg (by simp[B])];cases fs.findSome? (fun f=>f nm)<;>rfl
  clear B a9 N
  have W:=zh M
  have a5:(fs.length:Int)<=1000:=by omega
  obtain⟨n,L⟩:∃n,n=fs.length:=⟨_,rfl⟩
  have U:=zh L
  rw[<-L]at a1 a5
  clear M L
  go_enter Tryz.func114,Tryz.ntmps114
  go_upto_region 1 with fail
  rw[<-u]
  clear u
  go_wp2_with fail
  go_loopg [22] n (fun k vi wr=>∃i:Nat,i<=n/\k=n-i/\vi=.int .i64 (i:Int)/\Hid (Below a.heap.size a wr)/\Hid (∀j (y:j<fs.length),j<i->fs[j] nm=none))
  case atStart=>exact⟨0,by omega,by omega,rfl,Below.refl _ _,fun j _ y=>absurd y (by omega)⟩
  case round =>
   obtain⟨i,b5,hk,rfl,C,P⟩:=hrel
   have b0:=C.out.size
   have Y:=C.out.block _ O
   have d:=Y.trans V.out
   have s0:wr.cell? ⟨w.heap.size,0,none⟩=some (.int .i64 0):=(za d).trans rfl
   have s1:wr.cell? ⟨w.heap.size,1,none⟩=some (.int .i64 0):=(za d).trans rfl
   have t0:wr.frozen? ⟨w.heap.size,0,none⟩=false:=zi d
   have t1:wr.frozen? ⟨w.heap.size,1,none⟩=false:=zi d
   have a3:w.heap.size<wr.heap.size:=by omega
   have b8:wr.heap.size≠w.heap.size:=by omega
   have H:Hid (Below w.heap.size w wr):=T.out.trans (C.out.mono (by omega))
   clear Y d
   by_cases b7:i<n
   ·have a6:(i:Int)<(n:Int):=by omega
    have a0:i<fs.length:=by have:=U.out;omega
    obtain⟨gb,gn,Z,K⟩:=W.out.c i a0
    have kc:wr.cell? ⟨R,i,none⟩=some (.map (some gb)):=(C.out.cell (p:=⟨R,i,none⟩) W.out.lt).trans Z
    have b2:R<wr.heap.size:=zg kc
    have F:=(K.on (C.out.block _ K.lt)).look (t:=142) Tryz.underlying142 (zeroTh _) nm a8 true
    clear Z K
    cases z:fs[i] nm with
    |none =>
     rw[z]at F
     simp only[Option.map_none,Option.getD_none,Option.isSome_none,if_true]at F
     have a7:Hid (∀j (y:j<fs.length),j<i+1->fs[j] nm=none):=fun j y b6=>by
      rcases Nat.lt_or_ge j i with q|q
      ·exact P.out j y q
      ·have:j=i:=by omega
       subst this
       exact z
     have E:Hid (∀ob,Below a.heap.size a (wr.alloc ob)):=fun ob=>C.out.alloc b0 _
     clear z
     go_wp2_with fail
     go_roundg (n-(i+1))
     case measure=>omega
     case rel=>exact⟨i+1,by omega,rfl,by go_num,E.out _,a7⟩
    |some x =>
     obtain⟨x1,x2⟩:=x
     rw[z]at F
     simp only[Option.map_some,Option.getD_some,Option.isSome_some,if_true,thV]at F
     have g:=zh (near_some a0 P.out z)
     have I:Hid (lookRes (Tp.standV S fs md nm)=.tuple #[.agg #[.int .i64 (x1:Int),.int .i64 x2],.int .i64 0]):=by unfold Hid;rw[s.out,g.out];rfl
     have E:Hid (∀ob,Below w.heap.size w (wr.alloc ob)):=fun ob=>H.out.alloc (by omega) _
     clear z s g
     go_wp2_with fail
     exact bodyPost_ret (v:=.tuple #[.agg #[.int .i64 (x1:Int),.int .i64 x2],.int .i64 0]) (by simp[results,Tryz.results114,go_sem,s0,s1,a3]) rfl ⟨by rw[I.out],(zq (zq H.out zn 0 _) zn 1 _).alloc (by simp;omega) _⟩
   ·have a6:¬(i:Int)<(n:Int):=by omega
    have g:Hid (fs.findSome? (fun f=>f nm)=none):=near_none (fun j y=>P.out j y (by have:=U.out;omega))
    have I:Hid (lookRes (Tp.standV S fs md nm)=.tuple #[.agg #[.int .i64 0,.int .i64 0],.int .i64 7]):=by unfold Hid;rw[s.out,g.out];rfl
    clear s g
    go_wp2_with fail
    exact bodyPost_ret (v:=.tuple #[.agg #[.int .i64 0,.int .i64 0],.int .i64 7]) (by simp[results,Tryz.results114,go_sem,s0,s1]) rfl ⟨by rw[I.out],zq (zq H.out zn 0 _) zn 1 _⟩
 ·rw[decide_eq_false B]at a2
  have s:Hid (Tp.standV S fs md nm=seenRes (S md) nm):=by unfold Hid Tp.standV;rw[if_pos B];unfold seenRes;cases S md<;>rfl
  rw[s.out]
  clear B a1 M s
  have g:=zh (xU N md nm hl)
  clear N
  obtain⟨r,hr⟩:∃r,r=seenRes (S md) nm:=⟨_,rfl⟩
  rw[<-hr]at g ⊢
  clear hr
  go_enter Tryz.func114,Tryz.ntmps114
  go_upto_region 1 with fail
  rw[<-u]
  clear u
  go_wp2_with fail
  refine g.out.mono ?_
  rintro e D⟨rfl,G⟩
  have d:=(G.block _ O).trans V.out
  have a3:w.heap.size<D.heap.size:=Nat.lt_of_lt_of_le O G.size
  have s0:D.cell? ⟨w.heap.size,0,none⟩=some (.int .i64 0):=(za d).trans rfl
  have s1:D.cell? ⟨w.heap.size,1,none⟩=some (.int .i64 0):=(za d).trans rfl
  have t0:D.frozen? ⟨w.heap.size,0,none⟩=false:=zi d
  have t1:D.frozen? ⟨w.heap.size,1,none⟩=false:=zi d
  have E:Hid (Below w.heap.size w D):=T.out.trans (G.mono (by omega))
  clear d G c0 c1 z0 z1 g
  cases r with
  |ok x =>
   obtain⟨x1,x2⟩:=x
   simp only[lookRes]
   go_wp2_with fail
   exact bodyPost_ret (v:=.tuple #[.agg #[.int .i64 (x1:Int),.int .i64 x2],.int .i64 0]) (by simp[results,Tryz.results114,go_sem,s0,s1]) rfl ⟨rfl,zq (zq E.out zn 0 _) zn 1 _⟩
  |error er =>
   simp only[lookRes]
   go_wp2_with fail
   exact bodyPost_ret (v:=.tuple #[.agg #[.int .i64 0,.int .i64 0],.int .i64 (er:Int)]) (by simp[results,Tryz.results114,go_sem,s0,s1]) rfl ⟨rfl,zq (zq E.out zn 0 _) zn 1 _⟩
theorem xB (w:World)(b d:Value)(f:∃ob,b=.map (some ob))(g:∃a n c,d=.slice a n c) :
  Calls Tryz.prog 82 #[b,d] w fun e w'=>e=.returned (finderV w.heap.size)/\w'=(w.alloc (.cells #[b] 90)).alloc (.cells #[d] 199):=by
 obtain⟨ob,rfl⟩:=f
 obtain⟨a,n,c,rfl⟩:=g
 have h:=zm
 go_enter Tryz.func82,Tryz.ntmps82
 go_wp2_with fail
 go_ret
 exact⟨rfl,rfl⟩
def CkP (w:World) (res:Option (Nat×Nat)) (e:Ending) (w':World):Prop:=Below w.heap.size w w'/\match res with
 |none=>e=.returned (.tuple #[])
 |some er=>Thrown w.heap.size er e w'
def RefB (w:World) (b:Nat) (r:Tp.R):Prop:=∃(n:Int) (op:ByteArray) (lv rv:Option Addr) (aa:Option Addr) (ac:Nat),w.heap[b]?=some (.cells #[.int .i64 (r.code:Int),.int .i64 (r.pos:Int),.int .i64 n,.string (bs r.mod),.string (bs r.name),.string op,.pointer lv,.pointer rv,.slice aa r.args ac] 216 (0,0))
def refRes (code pos args:Nat) (a:Nat) (bb:Int) (ee:Nat):Option (Nat×Nat):=if ee≠0 then some (ee,pos) else if Tp.kindOf (a,bb)≠code then some (1,pos) else if code=6/\(args:Int)≠bb then some (2,pos) else none
theorem kQ {w:World}{b x code pos args a ee:Nat}{bb n:Int}{md nm:Bs}{op:ByteArray}{lv rv T:Option Addr}{ac:Nat}(s:w.heap[x]?=some (.cells #[.int .i64 (code:Int),.int .i64 (pos:Int),.int .i64 n,.string (bs md),.string (bs nm),.string op,.pointer lv,.pointer rv,.slice T args ac] 216 (0,0)))
  (hF:∀W,Below w.heap.size w W->Calls Tryz.prog 114 #[.string (bs md),.string (bs nm),.pointer (some ⟨b,0,none⟩),.pointer (some ⟨b+1,0,none⟩)] W fun e w'=>e=.returned (.tuple #[.agg #[.int .i64 (a:Int),.int .i64 bb],.int .i64 (ee:Int)])/\Below W.heap.size W w')(hc:code<1000) :
  Calls Tryz.prog 146 #[.pointer (some ⟨x,0,none⟩),finderV b] w (CkP w (refRes code pos args a bb ee)):=by
 have B:=zf s
 have c3:w.cell? ⟨x,3,none⟩=some (.string (bs md)):=(za s).trans rfl
 have M:w.cell? ⟨x,4,none⟩=some (.string (bs nm)):=(za s).trans rfl
 have HC:Hid (w.drew.cell? ⟨x,3,none⟩=some (.string (bs md))/\w.drew.cell? ⟨x,4,none⟩=some (.string (bs nm))):=⟨c3,M⟩
 have a4:Hid (∀ob,(w.alloc ob).drew.cell? ⟨x,3,none⟩=some (.string (bs md))/\(w.alloc ob).drew.cell? ⟨x,4,none⟩=some (.string (bs nm))):=fun ob=>⟨zE c3 _,zE M _⟩
 have HK:=zh s
 have S:=zh hF
 have y:=zh (show w.cell? ⟨x,3,none⟩=some (.string (bs md))/\w.cell? ⟨x,4,none⟩=some (.string (bs nm)) from⟨c3,M⟩)
 clear s hF
 unfold finderV
 go_enter Tryz.func146,Tryz.ntmps146
 go_upto_region 0 with fail
 go_cut [4,5] (fun s4 s5 wc=>∃c:Nat,s4=.pointer (some ⟨c,0,none⟩)/\s5=.int .i64 (ee:Int)/\Below w.heap.size w wc/\wc.heap[c]?=some (.cells #[.int .i64 (a:Int),.int .i64 bb] 196 (0,0))/\w.heap.size<=c)
 case first =>
  go_region_held3 (fun w'=>w'.cell? ⟨x,3,none⟩=some (.string (bs md))/\w'.cell? ⟨x,4,none⟩=some (.string (bs nm))) (with_reducible (first|exact a7.out _|exact m.out|exact HC.out|exact a4.out _|exact a8.out _ _|fail "KEEP")) (first|(go_at_call 114;first|(refine(S.out w.drew ((Below.refl _ _).drew)).mono ?_;rintro e w2 ⟨rfl,r⟩;have g:Hid (Below w.heap.size w w2):=((Below.refl _ _).drew).trans r;have m:Hid (w2.cell? ⟨x,3,none⟩=some (.string (bs md))/\w2.cell? ⟨x,4,none⟩=some (.string (bs nm))):=⟨(g.out.cell (p:=⟨x,3,none⟩) B).trans y.out.1,(g.out.cell (p:=⟨x,4,none⟩) B).trans y.out.2⟩;have a7:Hid (∀ob,(w2.alloc ob).cell? ⟨x,3,none⟩=some (.string (bs md))/\(w2.alloc ob).cell? ⟨x,4,none⟩=some (.string (bs nm))):=fun ob=>⟨zE m.out.1 _,zE m.out.2 _⟩;clear r)|(refine(S.out (w.alloc _).drew ((zb _ _).drew)).mono ?_;rintro e w2 ⟨rfl,r⟩;have g:Hid (Below w.heap.size w w2):=((zb _ _).drew).trans (r.mono (by simp));have o:Hid (w2.heap[w.heap.size]?=some (.cells #[.int .i64 0,.int .i64 0] 196 (0,0))):=(r.block w.heap.size (by simp)).trans (zo w _);have c2:w2.cell? ⟨w.heap.size,0,none⟩=some (.int .i64 0):=(za o.out).trans rfl;have c5:w2.cell? ⟨w.heap.size,1,none⟩=some (.int .i64 0):=(za o.out).trans rfl;have c6:w2.frozen? ⟨w.heap.size,0,none⟩=false:=zi o.out;have c7:w2.frozen? ⟨w.heap.size,1,none⟩=false:=zi o.out;have m:Hid (w2.cell? ⟨x,3,none⟩=some (.string (bs md))/\w2.cell? ⟨x,4,none⟩=some (.string (bs nm))):=⟨(g.out.cell (p:=⟨x,3,none⟩) B).trans y.out.1,(g.out.cell (p:=⟨x,4,none⟩) B).trans y.out.2⟩;have a8:Hid (∀u v,((w2.setCell ⟨w.heap.size,0,none⟩ u).setCell ⟨w.heap.size,1,none⟩ v).cell? ⟨x,3,none⟩=some (.string (bs md))/\((w2.setCell ⟨w.heap.size,0,none⟩ u).setCell ⟨w.heap.size,1,none⟩ v).cell? ⟨x,4,none⟩=some (.string (bs nm))):=fun u v=>⟨by rw[World.cell?_setCell_far _ _ _ _ (by simp;omega),World.cell?_setCell_far _ _ _ _ (by simp;omega)];exact m.out.1,by rw[World.cell?_setCell_far _ _ _ _ (by simp;omega),World.cell?_setCell_far _ _ _ _ (by simp;omega)];exact m.out.2⟩;clear r)))
  ·go_wp2_with fail
   go_meet
   case rel=>exact⟨w2.heap.size,rfl,rfl,g.out.alloc (by have:=g.out.size;omega) _,zo _ _,g.out.size⟩
  ·go_wp2_with fail
   go_meet
   case rel=>exact⟨w.heap.size,rfl,rfl,zq (zq g.out zn 0 _) zn 1 _,zu 1 _ (zu 0 _ o.out),Nat.le_refl _⟩
 case rest =>
  obtain⟨c,rfl,rfl,K,A,b8⟩:=hcut
  have R:=K.size
  have C:=(K.block x B).trans HK.out
  have Z:wc.cell? ⟨x,0,none⟩=some (.int .i64 (code:Int)):=(za C).trans rfl
  have k1:wc.cell? ⟨x,1,none⟩=some (.int .i64 (pos:Int)):=(za C).trans rfl
  have k8:wc.cell? ⟨x,8,none⟩=some (.slice T args ac):=(za C).trans rfl
  have X:wc.cell? ⟨c,0,none⟩=some (.int .i64 (a:Int)):=(za A).trans rfl
  have Y:wc.cell? ⟨c,1,none⟩=some (.int .i64 bb):=(za A).trans rfl
  have O:x<wc.heap.size:=by omega
  have a1:c<wc.heap.size:=zf A
  have a3:=zh K
  have o:=zh A
  have b5:=zh C
  clear K A C c3 M HC a4 S y HK
  by_cases P:ee=0
  ·subst P
   have b7:(code:Int)<1000:=by omega
   have a6:Hid (wc.drew.cell? ⟨c,0,none⟩=some (.int .i64 (a:Int))/\wc.drew.cell? ⟨c,1,none⟩=some (.int .i64 bb)/\wc.drew.cell? ⟨x,0,none⟩=some (.int .i64 (code:Int))):=⟨X,Y,Z⟩
   have a0:Hid (∀W,Below wc.heap.size wc W->W.cell? ⟨c,0,none⟩=some (.int .i64 (a:Int))/\W.cell? ⟨c,1,none⟩=some (.int .i64 bb)/\W.cell? ⟨x,0,none⟩=some (.int .i64 (code:Int))):=fun W V=>⟨(V.cell (p:=⟨c,0,none⟩) a1).trans X,(V.cell (p:=⟨c,1,none⟩) a1).trans Y,(V.cell (p:=⟨x,0,none⟩) O).trans Z⟩
   obtain⟨f,L⟩:∃f,f=Tp.kindOf (a,bb):=⟨_,rfl⟩
   have a5:Hid (Calls Tryz.prog 167 #[.agg #[.int .i64 (a:Int),.int .i64 bb]] wc.drew fun e w'=>e=.returned (.int .i64 (f:Int))/\Below wc.heap.size wc w'):=by
    rw[L]
    exact(kind_any a bb wc.drew).mono fun e w' q=>⟨q.1,((Below.refl _ _).drew).trans q.2⟩
   have b9:f<1000:=by rw[L];unfold Tp.kindOf;split<;>(try split)<;>omega
   have j:Hid (refRes code pos args a bb 0=if f≠code then some (1,pos) else if code=6/\(args:Int)≠bb then some (2,pos) else none):=by unfold Hid refRes;rw[if_neg (by simp),L]
   clear L
   go_wp2_with fail
   go_region_held3 (fun w'=>w'.cell? ⟨c,0,none⟩=some (.int .i64 (a:Int))/\w'.cell? ⟨c,1,none⟩=some (.int .i64 bb)/\w'.cell? ⟨x,0,none⟩=some (.int .i64 (code:Int))) (with_reducible (first|exact N.out|exact a6.out|fail "KEEP")) (first|(go_at_call 167;refine a5.out.mono ?_;rintro e l ⟨rfl,i⟩;have a2:=zh i;have N:=zh (a0.out l i);clear i))
   have i:=a2.out
   have b3:=i.size
   have c0:l.cell? ⟨x,1,none⟩=some (.int .i64 (pos:Int)):=(i.cell (p:=⟨x,1,none⟩) O).trans k1
   have c1:l.cell? ⟨x,8,none⟩=some (.slice T args ac):=(i.cell (p:=⟨x,8,none⟩) O).trans k8
   obtain⟨j0,j1,j2⟩:=N.out
   have b4:x<l.heap.size:=by omega
   have b1:c<l.heap.size:=by omega
   have H:Hid (Below w.heap.size w l):=a3.out.trans (i.mono R)
   have I:w.heap.size<=l.heap.size:=by omega
   clear i X Y Z k1 k8 a6 a0 a5 a2 N
   by_cases Q:f=code
   ·subst Q
    by_cases U:f=6
    ·subst U
     by_cases J:(args:Int)=bb
     ·subst J
      have h:Hid (refRes 6 pos args a (args:Int) 0=none):=by unfold Hid;rw[j.out];simp
      clear j
      go_wp2_with fail
      go_quiet (fail)
      go_wp2_with fail
      refine bodyPost_end (results_none rfl _ _ _) rfl ⟨below_drewN H.out _,?_⟩
      rw[h.out]
     ·have a9:((args:Int) != bb)=true:=by simpa using J
      have h:Hid (refRes 6 pos args a bb 0=some (2,pos)):=by unfold Hid;rw[j.out];simp[J]
      clear j J
      go_wp2_with fail
      go_quiet (fail)
      go_wp2_with fail
      refine(yV 2 pos _).mono ?_
      rintro e G⟨d,k⟩
      have t:Hid (Below w.heap.size w G):=(below_drewN H.out _).trans (k.mono I)
      have z:=zh (d.mono (B':=w.heap.size) I)
      obtain⟨ab,D,rfl,E,F⟩:=d.out
      clear d k D E F
      go_wp2_with fail
      refine⟨rfl,t.out,?_⟩
      rw[h.out]
      exact z.out
    ·have b6:((f:Int)==6)=false:=by simp;omega
     have h:Hid (refRes f pos args a bb 0=none):=by unfold Hid;rw[j.out];simp[U]
     clear j U
     go_wp2_with fail
     go_quiet (fail)
     go_wp2_with fail
     refine bodyPost_end (results_none rfl _ _ _) rfl ⟨below_drewN H.out _,?_⟩
     rw[h.out]
   ·have b2:((f:Int) != (code:Int))=true:=by simp;omega
    have h:Hid (refRes code pos args a bb 0=some (1,pos)):=by unfold Hid;rw[j.out,if_pos Q]
    clear j Q
    go_wp2_with fail
    refine(yV 1 pos _).mono ?_
    rintro e G⟨d,k⟩
    have t:Hid (Below w.heap.size w G):=H.out.trans (k.mono I)
    have z:=zh (d.mono (B':=w.heap.size) I)
    obtain⟨ab,D,rfl,E,F⟩:=d.out
    clear d k D E F
    go_wp2_with fail
    refine⟨rfl,t.out,?_⟩
    rw[h.out]
    exact z.out
  ·have b0:((ee:Int) != 0)=true:=by simp;omega
   have h:Hid (refRes code pos args a bb ee=some (ee,pos)):=by unfold Hid refRes;rw[if_pos P]
   clear P
   go_wp2_with fail
   refine(yV ee pos _).mono ?_
   rintro e G⟨d,k⟩
   have t:Hid (Below w.heap.size w G):=a3.out.trans (k.mono R)
   have z:=zh (d.mono (B':=w.heap.size) R)
   obtain⟨ab,D,rfl,E,F⟩:=d.out
   clear d k D E F
   go_wp2_with fail
   refine⟨rfl,t.out,?_⟩
   rw[h.out]
   exact z.out
theorem standV_err {S:Seen}{fs:Near}{md nm:Bs}{er:Nat}(h:Tp.standV S fs md nm=.error er):er≠0:=by
 unfold Tp.standV at h
 split at h
 ·split at h
  ·cases h;omega
  ·split at h
   ·cases h
   ·cases h;omega
 ·split at h
  ·cases h
  ·cases h;omega
theorem kR {w:World}{b:Nat}{S:Seen}{fs:Near}(h:Fnd w b S fs)(k:fs.length<=1000){x:Nat}{r:Tp.R}(m:RefB w x r)(j:r.mod.length<=1000000)(i:r.name.length<=1000000)(g:r.code<1000) :
  Calls Tryz.prog 146 #[.pointer (some ⟨x,0,none⟩),finderV b] w (CkP w (Tp.judgeP (Tp.standV S fs) r)):=by
 obtain⟨n,q,p,t,o,ac,e⟩:=m
 obtain⟨code,pos,md,nm,args⟩:=r
 simp only at e j i g
 have d:=fun W (l:Below w.heap.size w W)=>ui (h.on l) k md nm j i
 cases c:Tp.standV S fs md nm with
 |error er =>
  rw[c]at d
  have:=kQ (a:=0) (bb:=0) (ee:=er) e d g
  have f:refRes code pos args 0 0 er=Tp.judgeP (Tp.standV S fs) ⟨code,pos,md,nm,args⟩:=by
   unfold refRes Tp.judgeP
   simp only[c]
   rw[if_pos (standV_err c)]
  rw[<-f]
  exact this
 |ok s =>
  obtain⟨a,bb⟩:=s
  rw[c]at d
  have:=kQ (a:=a) (bb:=bb) (ee:=0) e d g
  have f:refRes code pos args a bb 0=Tp.judgeP (Tp.standV S fs) ⟨code,pos,md,nm,args⟩:=by
   unfold refRes Tp.judgeP
   simp only[c]
   rw[if_neg (by simp)]
  rw[<-f]
  exact this
theorem CkP.up {w W w':World}{a:Option (Nat×Nat)}{e:Ending}(h:CkP W a e w')(k:Below w.heap.size w W):CkP w a e w':=by
 obtain⟨c,b⟩:=h
 refine⟨k.trans (c.mono k.size),?_⟩
 cases a with
 |none=>exact b
 |some er=>exact Thrown.mono b k.size
theorem jS {w:World}{b:Nat}{S:Seen}{fs:Near}(h:Fnd w b S fs)(u:fs.length<=1000){code pos:Nat}{nm:Bs}{iv vv ta ea:Option Addr}{tn tc en ec:Nat}(y:nm.length<=1000000) :
  Calls Tryz.prog 112 #[.agg #[.int .i64 (code:Int),.int .i64 (pos:Int),.string (bs nm),.pointer iv,.pointer vv,.slice ta tn tc,.slice ea en ec],finderV b] w (CkP w (Tp.judgeP (Tp.standV S fs) ⟨if iv=none then 2 else 3,pos,[],nm,0⟩)):=by
 have j:Hid (∀W x k,Below w.heap.size w W->W.heap[x]?=some (.cells #[.int .i64 (k:Nat),.int .i64 (pos:Int),.int .i64 0,.string ⟨#[]⟩,.string (bs nm),.string ⟨#[]⟩,.pointer none,.pointer none,.slice none 0 0] 216 (0,0))->k<1000->Calls Tryz.prog 146 #[.pointer (some ⟨x,0,none⟩),finderV b] W (CkP w (Tp.judgeP (Tp.standV S fs) ⟨k,pos,[],nm,0⟩))):=by
  intro W x k s z t
  refine(kR (r:=⟨k,pos,[],nm,0⟩) (h.on s) u ⟨0,⟨#[]⟩,none,none,none,0,z⟩ (by simp) y t).mono ?_
  intro e w' a
  exact a.up s
 unfold finderV at j ⊢
 clear h
 cases iv with
 |none =>
  rw[if_pos rfl]
  have g:=zh (fun W x=>j.out W x 2)
  clear j
  generalize Tp.judgeP (Tp.standV S fs) ⟨2,pos,[],nm,0⟩=res at g ⊢
  have i:∀l m,Below w.heap.size w ((w.alloc l).alloc m):=fun l m=>(zb _ _).alloc (by simp) _
  have n:=zh i
  clear i
  go_enter Tryz.func112,Tryz.ntmps112
  go_wp2_with fail
  refine(g.out _ _ (n.out _ _) (by simpa using zo (w.alloc _) _) (by omega)).mono ?_
  intro e w' a
  cases res with
  |none =>
   have d:=zh a
   obtain⟨f,c⟩:=a
   simp only at c
   subst c
   clear f
   go_wp2_with fail
   exact bodyPost_end (results_none rfl _ _ _) rfl d.out
  |some er =>
   have d:=zh a
   obtain⟨f,c⟩:=a
   obtain⟨v,o,rfl,p,q⟩:=c.out
   clear f c o p q
   go_wp2_with fail
   exact⟨rfl,d.out⟩
 |some i0 =>
  rw[if_neg (by simp)]
  have g:=zh (fun W x=>j.out W x 3)
  clear j
  generalize Tp.judgeP (Tp.standV S fs) ⟨3,pos,[],nm,0⟩=res at g ⊢
  have i:∀l m,Below w.heap.size w ((w.alloc l).alloc m):=fun l m=>(zb _ _).alloc (by simp) _
  have n:=zh i
  clear i
  go_enter Tryz.func112,Tryz.ntmps112
  go_wp2_with fail
  refine(g.out _ _ (n.out _ _) (by simpa using zo (w.alloc _) _) (by omega)).mono ?_
  intro e w' a
  cases res with
  |none =>
   have d:=zh a
   obtain⟨f,c⟩:=a
   simp only at c
   subst c
   clear f
   go_wp2_with fail
   exact bodyPost_end (results_none rfl _ _ _) rfl d.out
  |some er =>
   have d:=zh a
   obtain⟨f,c⟩:=a
   obtain⟨v,o,rfl,p,q⟩:=c.out
   clear f c o p q
   go_wp2_with fail
   exact⟨rfl,d.out⟩
end Go.Proofs.YtibncofnnlbmcaaGreatDoor
