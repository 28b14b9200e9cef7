import Derived.Test.YtbkndnmglhghlaaGreatDoorKMb
set_option maxRecDepth 100000
set_option maxHeartbeats 4000000

namespace Go.Proofs.YtbkndnmglhghlaaGreatDoor
open Go.RowKit Go.Maps
open Tp (Bs Th Sy Seen)
variable {nm:Bs}{a b:Nat}{fs:Near}{S:Seen}{w:World}
def CkP (w:World) (res:Option (Nat×Nat)) (e:Ending) (w':World):Prop:=Below w.heap.size w w'/\match res with
 |none=>e=.returned (.tuple #[])
 |some er=>Thrown w.heap.size er e w'
def RefB (w:World) (b:Nat) (r:Tp.R):Prop:=∃(n:Int) (op:ByteArray) (lv rv:Option Addr) (aa:Option Addr) (ac:Nat),w.heap[b]?=some (.cells #[.int .i64 (r.code:Int),.int .i64 (r.pos:Int),.int .i64 n,.string (bs r.mod),.string (bs r.name),.string op,.pointer lv,.pointer rv,.slice aa r.args ac] 236 (0,0))
def refRes (code pos args:Nat) (a:Nat) (bb:Int) (ee:Nat):Option (Nat×Nat):=if ee≠0 then some (ee,pos) else if Tp.kindOf (a,bb)≠code then some (1,pos) else if code=6/\(args:Int)≠bb then some (2,pos) else none
theorem jb {x code pos args ee:Nat}{bb n:Int}{g:Bs}{op:ByteArray}{lv rv Y:Option Addr}{Z:Nat}(z:w.heap[x]?=some (.cells #[.int .i64 (code:Int),.int .i64 (pos:Int),.int .i64 n,.string (bs g),.string (bs nm),.string op,.pointer lv,.pointer rv,.slice Y args Z] 236 (0,0)))
  (hF:∀W,Below w.heap.size w W->Calls Tryz.prog 136 #[.string (bs g),.string (bs nm),.pointer (some ⟨b,0,none⟩),.pointer (some ⟨b+1,0,none⟩)] W fun e w'=>e=.returned (.tuple #[.agg #[.int .i64 (a:Int),.int .i64 bb],.int .i64 (ee:Int)])/\Below W.heap.size W w')(hc:code<1000) :
  Calls Tryz.prog 165 #[.pointer (some ⟨x,0,none⟩),finderV b] w (CkP w (refRes code pos args a bb ee)):=by
 have E:=zc z
 have P:w.cell? ⟨x,3,none⟩=some (.string (bs g)):=(za z).trans rfl
 have Q:w.cell? ⟨x,4,none⟩=some (.string (bs nm)):=(za z).trans rfl
 have HC:Hid (w.drew.cell? ⟨x,3,none⟩=some (.string (bs g))/\w.drew.cell? ⟨x,4,none⟩=some (.string (bs nm))):=⟨P,Q⟩
 have a4:Hid (∀o,(w.alloc o).drew.cell? ⟨x,3,none⟩=some (.string (bs g))/\(w.alloc o).drew.cell? ⟨x,4,none⟩=some (.string (bs nm))):=fun o=>⟨yf P _,yf Q _⟩
 have HK:=zh z
 have X:=zh hF
 have B:=zh (show w.cell? ⟨x,3,none⟩=some (.string (bs g))/\w.cell? ⟨x,4,none⟩=some (.string (bs nm)) from⟨P,Q⟩)
 clear z hF
 unfold finderV
 go_enter Tryz.func165,Tryz.ntmps165
 go_upto_region 0 with fail
 go_cut [4,5] (fun s4 s5 wc=>∃d:Nat,s4=.pointer (some ⟨d,0,none⟩)/\s5=.int .i64 (ee:Int)/\Below w.heap.size w wc/\wc.heap[d]?=some (.cells #[.int .i64 (a:Int),.int .i64 bb] 221 (0,0))/\w.heap.size<=d)
 case first =>
  go_region_held3 (fun w'=>w'.cell? ⟨x,3,none⟩=some (.string (bs g))/\w'.cell? ⟨x,4,none⟩=some (.string (bs nm))) (with_reducible (first|exact a7.out _|exact s.out|exact HC.out|exact a4.out _|exact a8.out _ _|fail "KEEP")) (first|(go_at_call 136;first|(refine(X.out w.drew ((Below.refl _ _).drew)).mono ?_;rintro e c ⟨rfl,y⟩;have i:Hid (Below w.heap.size w c):=((Below.refl _ _).drew).trans y;have s:Hid (c.cell? ⟨x,3,none⟩=some (.string (bs g))/\c.cell? ⟨x,4,none⟩=some (.string (bs nm))):=⟨(i.out.cell (p:=⟨x,3,none⟩) E).trans B.out.1,(i.out.cell (p:=⟨x,4,none⟩) E).trans B.out.2⟩;have a7:Hid (∀o,(c.alloc o).cell? ⟨x,3,none⟩=some (.string (bs g))/\(c.alloc o).cell? ⟨x,4,none⟩=some (.string (bs nm))):=fun o=>⟨yf s.out.1 _,yf s.out.2 _⟩;clear y)|(refine(X.out (w.alloc _).drew ((zb _ _).drew)).mono ?_;rintro e c ⟨rfl,y⟩;have i:Hid (Below w.heap.size w c):=((zb _ _).drew).trans (y.mono (by simp));have t:Hid (c.heap[w.heap.size]?=some (.cells #[.int .i64 0,.int .i64 0] 221 (0,0))):=(y.block w.heap.size (by simp)).trans (zl w _);have c2:c.cell? ⟨w.heap.size,0,none⟩=some (.int .i64 0):=(za t.out).trans rfl;have c5:c.cell? ⟨w.heap.size,1,none⟩=some (.int .i64 0):=(za t.out).trans rfl;have c6:c.frozen? ⟨w.heap.size,0,none⟩=false:=zi t.out;have c7:c.frozen? ⟨w.heap.size,1,none⟩=false:=zi t.out;have s:Hid (c.cell? ⟨x,3,none⟩=some (.string (bs g))/\c.cell? ⟨x,4,none⟩=some (.string (bs nm))):=⟨(i.out.cell (p:=⟨x,3,none⟩) E).trans B.out.1,(i.out.cell (p:=⟨x,4,none⟩) E).trans B.out.2⟩;have a8:Hid (∀u v,((c.setCell ⟨w.heap.size,0,none⟩ u).setCell ⟨w.heap.size,1,none⟩ v).cell? ⟨x,3,none⟩=some (.string (bs g))/\((c.setCell ⟨w.heap.size,0,none⟩ u).setCell ⟨w.heap.size,1,none⟩ v).cell? ⟨x,4,none⟩=some (.string (bs nm))):=fun u v=>⟨by rw[World.cell?_setCell_far _ _ _ _ (by simp;omega),World.cell?_setCell_far _ _ _ _ (by simp;omega)];exact s.out.1,by rw[World.cell?_setCell_far _ _ _ _ (by simp;omega),World.cell?_setCell_far _ _ _ _ (by simp;omega)];exact s.out.2⟩;clear y)))
  ·go_wp2_with fail
   go_meet
   case rel=>exact⟨c.heap.size,rfl,rfl,i.out.alloc (by have:=i.out.size;omega) _,zl _ _,i.out.size⟩
  ·go_wp2_with fail
   go_meet
   case rel=>exact⟨w.heap.size,rfl,rfl,zu (zu i.out zn 0 _) zn 1 _,zy 1 _ (zy 0 _ t.out),Nat.le_refl _⟩
 case rest =>
  obtain⟨d,rfl,rfl,N,D,b8⟩:=hcut
  have V:=N.size
  have F:=(N.block x E).trans HK.out
  have k0:wc.cell? ⟨x,0,none⟩=some (.int .i64 (code:Int)):=(za F).trans rfl
  have k1:wc.cell? ⟨x,1,none⟩=some (.int .i64 (pos:Int)):=(za F).trans rfl
  have k8:wc.cell? ⟨x,8,none⟩=some (.slice Y args Z):=(za F).trans rfl
  have i0:wc.cell? ⟨d,0,none⟩=some (.int .i64 (a:Int)):=(za D).trans rfl
  have i1:wc.cell? ⟨d,1,none⟩=some (.int .i64 bb):=(za D).trans rfl
  have S:x<wc.heap.size:=by omega
  have a1:d<wc.heap.size:=zc D
  have a3:=zh N
  have t:=zh D
  have b5:=zh F
  clear N D F P Q HC a4 X B HK
  by_cases T:ee=0
  ·subst T
   have b7:(code:Int)<1000:=by omega
   have a6:Hid (wc.drew.cell? ⟨d,0,none⟩=some (.int .i64 (a:Int))/\wc.drew.cell? ⟨d,1,none⟩=some (.int .i64 bb)/\wc.drew.cell? ⟨x,0,none⟩=some (.int .i64 (code:Int))):=⟨i0,i1,k0⟩
   have a0:Hid (∀W,Below wc.heap.size wc W->W.cell? ⟨d,0,none⟩=some (.int .i64 (a:Int))/\W.cell? ⟨d,1,none⟩=some (.int .i64 bb)/\W.cell? ⟨x,0,none⟩=some (.int .i64 (code:Int))):=fun W hW=>⟨(hW.cell (p:=⟨d,0,none⟩) a1).trans i0,(hW.cell (p:=⟨d,1,none⟩) a1).trans i1,(hW.cell (p:=⟨x,0,none⟩) S).trans k0⟩
   obtain⟨h,O⟩:∃h,h=Tp.kindOf (a,bb):=⟨_,rfl⟩
   have a5:Hid (Calls Tryz.prog 182 #[.agg #[.int .i64 (a:Int),.int .i64 bb]] wc.drew fun e w'=>e=.returned (.int .i64 (h:Int))/\Below wc.heap.size wc w'):=by
    rw[O]
    exact(kind_any a bb wc.drew).mono fun e w' q=>⟨q.1,((Below.refl _ _).drew).trans q.2⟩
   have b9:h<1000:=by rw[O];unfold Tp.kindOf;split<;>(try split)<;>omega
   have l:Hid (refRes code pos args a bb 0=if h≠code then some (1,pos) else if code=6/\(args:Int)≠bb then some (2,pos) else none):=by unfold Hid refRes;rw[if_neg (by simp),O]
   clear O
   go_wp2_with fail
   go_region_held3 (fun w'=>w'.cell? ⟨d,0,none⟩=some (.int .i64 (a:Int))/\w'.cell? ⟨d,1,none⟩=some (.int .i64 bb)/\w'.cell? ⟨x,0,none⟩=some (.int .i64 (code:Int))) (with_reducible (first|exact R.out|exact a6.out|fail "KEEP")) (first|(go_at_call 182;refine a5.out.mono ?_;rintro e r ⟨rfl,k⟩;have a2:=zh k;have R:=zh (a0.out r k);clear k))
   have k:=a2.out
   have b3:=k.size
   have c0:r.cell? ⟨x,1,none⟩=some (.int .i64 (pos:Int)):=(k.cell (p:=⟨x,1,none⟩) S).trans k1
   have c1:r.cell? ⟨x,8,none⟩=some (.slice Y args Z):=(k.cell (p:=⟨x,8,none⟩) S).trans k8
   obtain⟨j0,j1,j2⟩:=R.out
   have b4:x<r.heap.size:=by omega
   have b1:d<r.heap.size:=by omega
   have K:Hid (Below w.heap.size w r):=a3.out.trans (k.mono V)
   have L:w.heap.size<=r.heap.size:=by omega
   clear k i0 i1 k0 k1 k8 a6 a0 a5 a2 R
   by_cases U:h=code
   ·subst U
    by_cases h6:h=6
    ·subst h6
     by_cases M:(args:Int)=bb
     ·subst M
      have j:Hid (refRes 6 pos args a (args:Int) 0=none):=by unfold Hid;rw[l.out];simp
      clear l
      go_wp2_with fail
      go_quiet (fail)
      go_wp2_with fail
      refine ze rfl rfl ⟨below_drewN K.out _,?_⟩
      rw[j.out]
     ·have a9:((args:Int) != bb)=true:=by simpa using M
      have j:Hid (refRes 6 pos args a bb 0=some (2,pos)):=by unfold Hid;rw[l.out];simp[M]
      clear l M
      go_wp2_with fail
      go_quiet (fail)
      go_wp2_with fail
      refine(kB 2 pos _).mono ?_
      rintro e J⟨f,m⟩
      have A:Hid (Below w.heap.size w J):=(below_drewN K.out _).trans (m.mono L)
      have C:=zh (f.mono (B':=w.heap.size) L)
      obtain⟨ab,G,rfl,H,I⟩:=f.out
      clear f m G H I
      go_wp2_with fail
      refine⟨rfl,A.out,?_⟩
      rw[j.out]
      exact C.out
    ·have b6:((h:Int)==6)=false:=by simp;omega
     have j:Hid (refRes h pos args a bb 0=none):=by unfold Hid;rw[l.out];simp[h6]
     clear l h6
     go_wp2_with fail
     go_quiet (fail)
     go_wp2_with fail
     refine ze rfl rfl ⟨below_drewN K.out _,?_⟩
     rw[j.out]
   ·have b2:((h:Int) != (code:Int))=true:=by simp;omega
    have j:Hid (refRes code pos args a bb 0=some (1,pos)):=by unfold Hid;rw[l.out,if_pos U]
    clear l U
    go_wp2_with fail
    refine(kB 1 pos _).mono ?_
    rintro e J⟨f,m⟩
    have A:Hid (Below w.heap.size w J):=K.out.trans (m.mono L)
    have C:=zh (f.mono (B':=w.heap.size) L)
    obtain⟨ab,G,rfl,H,I⟩:=f.out
    clear f m G H I
    go_wp2_with fail
    refine⟨rfl,A.out,?_⟩
    rw[j.out]
    exact C.out
  ·have b0:((ee:Int) != 0)=true:=by simp;omega
   have j:Hid (refRes code pos args a bb ee=some (ee,pos)):=by unfold Hid refRes;rw[if_pos T]
   clear T
   go_wp2_with fail
   refine(kB ee pos _).mono ?_
   rintro e J⟨f,m⟩
   have A:Hid (Below w.heap.size w J):=a3.out.trans (m.mono V)
   have C:=zh (f.mono (B':=w.heap.size) V)
   obtain⟨ab,G,rfl,H,I⟩:=f.out
   clear f m G H I
   go_wp2_with fail
   refine⟨rfl,A.out,?_⟩
   rw[j.out]
   exact C.out
theorem standV_err {b:Bs}(h:Tp.standV S fs b nm=.error a):a≠0:=by
 unfold Tp.standV at h
 split at h
 ·split at h
  ·cases h;omega
  ·split at h
   ·cases h
   ·cases h;omega
 ·split at h
  ·cases h
  ·cases h;omega
theorem jc (h:Fnd w b S fs)(l:fs.length<=1000){x:Nat}{r:Tp.R}(o:RefB w x r)(k:r.mod.length<=1000000)(j:r.name.length<=1000000)(i:r.code<1000) :
  Calls Tryz.prog 165 #[.pointer (some ⟨x,0,none⟩),finderV b] w (CkP w (Tp.judgeP (Tp.standV S fs) r)):=by
 obtain⟨n,op,t,u,p,q,f⟩:=o
 obtain⟨code,pos,e,nm,args⟩:=r
 simp only at f k j i
 have d:=fun W (m:Below w.heap.size w W)=>vF (h.on m) l e nm k j
 cases c:Tp.standV S fs e nm with
 |error er =>
  rw[c]at d
  have:=jb (a:=0) (bb:=0) (ee:=er) f d i
  have g:refRes code pos args 0 0 er=Tp.judgeP (Tp.standV S fs) ⟨code,pos,e,nm,args⟩:=by
   unfold refRes Tp.judgeP
   simp only[c]
   rw[if_pos (standV_err c)]
  rw[<-g]
  exact this
 |ok s =>
  obtain⟨a,bb⟩:=s
  rw[c]at d
  have:=jb (a:=a) (bb:=bb) (ee:=0) f d i
  have g:refRes code pos args a bb 0=Tp.judgeP (Tp.standV S fs) ⟨code,pos,e,nm,args⟩:=by
   unfold refRes Tp.judgeP
   simp only[c]
   rw[if_neg (by simp)]
  rw[<-g]
  exact this
theorem CkP.up {W w':World}{a:Option (Nat×Nat)}{e:Ending}(h:CkP W a e w')(k:Below w.heap.size w W):CkP w a e w':=by
 obtain⟨c,b⟩:=h
 refine⟨k.trans (c.mono k.size),?_⟩
 cases a with
 |none=>exact b
 |some er=>exact Thrown.mono b k.size
theorem jH (h:Fnd w b S fs)(u:fs.length<=1000){code pos:Nat}{nm:Bs}{iv vv ta ea:Option Addr}{tn tc en ec:Nat}(y:nm.length<=1000000) :
  Calls Tryz.prog 134 #[.agg #[.int .i64 (code:Int),.int .i64 (pos:Int),.string (bs nm),.pointer iv,.pointer vv,.slice ta tn tc,.slice ea en ec],finderV b] w (CkP w (Tp.judgeP (Tp.standV S fs) ⟨if iv=none then 2 else 3,pos,[],nm,0⟩)):=by
 have j:Hid (∀W x k,Below w.heap.size w W->W.heap[x]?=some (.cells #[.int .i64 (k:Nat),.int .i64 (pos:Int),.int .i64 0,.string ⟨#[]⟩,.string (bs nm),.string ⟨#[]⟩,.pointer none,.pointer none,.slice none 0 0] 236 (0,0))->k<1000->Calls Tryz.prog 165 #[.pointer (some ⟨x,0,none⟩),finderV b] W (CkP w (Tp.judgeP (Tp.standV S fs) ⟨k,pos,[],nm,0⟩))):=by
  intro W x k s z t
  refine(jc (r:=⟨k,pos,[],nm,0⟩) (h.on s) u ⟨0,⟨#[]⟩,none,none,none,0,z⟩ (by simp) y t).mono ?_
  intro e w' a
  exact a.up s
 unfold finderV at j ⊢
 clear h
 cases iv with
 |none =>
  rw[if_pos rfl]
  have g:=zh (fun W x=>j.out W x 2)
  clear j
  generalize Tp.judgeP (Tp.standV S fs) ⟨2,pos,[],nm,0⟩=res at g ⊢
  have i:∀l m,Below w.heap.size w ((w.alloc l).alloc m):=fun l m=>(zb _ _).alloc (by simp) _
  have n:=zh i
  clear i
  go_enter Tryz.func134,Tryz.ntmps134
  go_wp2_with fail
  refine(g.out _ _ (n.out _ _) (by simpa using zl (w.alloc _) _) (by omega)).mono ?_
  intro e w' a
  cases res with
  |none =>
   have d:=zh a
   obtain⟨f,c⟩:=a
   simp only at c
   subst c
   clear f
   go_wp2_with fail
   exact ze rfl rfl d.out
  |some er =>
   have d:=zh a
   obtain⟨f,c⟩:=a
   obtain⟨v,o,rfl,p,q⟩:=c.out
   clear f c o p q
   go_wp2_with fail
   exact⟨rfl,d.out⟩
 |some i0 =>
  rw[if_neg (by simp)]
  have g:=zh (fun W x=>j.out W x 3)
  clear j
  generalize Tp.judgeP (Tp.standV S fs) ⟨3,pos,[],nm,0⟩=res at g ⊢
  have i:∀l m,Below w.heap.size w ((w.alloc l).alloc m):=fun l m=>(zb _ _).alloc (by simp) _
  have n:=zh i
  clear i
  go_enter Tryz.func134,Tryz.ntmps134
  go_wp2_with fail
  refine(g.out _ _ (n.out _ _) (by simpa using zl (w.alloc _) _) (by omega)).mono ?_
  intro e w' a
  cases res with
  |none =>
   have d:=zh a
   obtain⟨f,c⟩:=a
   simp only at c
   subst c
   clear f
   go_wp2_with fail
   exact ze rfl rfl d.out
  |some er =>
   have d:=zh a
   obtain⟨f,c⟩:=a
   obtain⟨v,o,rfl,p,q⟩:=c.out
   clear f c o p q
   go_wp2_with fail
   exact⟨rfl,d.out⟩
end Go.Proofs.YtbkndnmglhghlaaGreatDoor

namespace Go.Proofs.YtbkndnmglhghlaaGreatDoor
open Go.RowKit Go.Maps
open Tp (Bs Th Sy Seen X S)
variable {b n:Nat}{f:Nat->Option (Nat×Nat)}{D:Nat->Prop}{w:World}
abbrev Jd:=Tp.R->Option (Nat×Nat)
def Sm (l:List Tp.R):Prop:=∀r∈l,r.mod.length<=1000000/\r.name.length<=1000000
theorem Sm.sub {l m:List Tp.R}(h:Sm l)(k:∀r∈m,r∈l):Sm m:=fun r a=>h r (k r a)
theorem xx (x:X)(l:List X):Tp.rx (x :: l)=Tp.rx [x]++Tp.rx l:=by
 obtain⟨code,pos,n,m,nm,op,b,c,a⟩:=x
 simp[Tp.rx]
theorem rx_app (l m:List X):Tp.rx (l++m)=Tp.rx l++Tp.rx m:=by
 induction l with
 |nil=>simp[Tp.rx]
 |cons x l ih=>rw[List.cons_append,xx,ih,xx x l,List.append_assoc]
theorem rx_one (code pos n:Nat)(m nm op:Bs)(b c a:List X):Tp.rx [⟨code,pos,n,m,nm,op,b,c,a⟩]=(if code=2\/code=3\/code=6 then [⟨code,pos,m,nm,a.length⟩] else [])++(Tp.rx b++(Tp.rx c++Tp.rx a)):=by
 simp[Tp.rx]
theorem RepL.step {w':World}{l:List X}{vs:List Value}(h:RepL w D l vs)(k:Below w.heap.size w w'):RepL w' D l vs :=
 RepL.mono (fun b a c=>⟨k.block b c,a⟩) _ _ _ zn h
theorem RepL.get:∀(l:List X) (vs:List Value),RepL w D l vs->∀i (h:i<l.length),∃b,vs[i]?=some (.pointer (some ⟨b,0,none⟩))/\RepL w D [l[i]] [.pointer (some ⟨b,0,none⟩)]:=by
 intro l
 induction l with
 |nil=>intro vs _ i h;simp at h
 |cons x l ih =>
  intro vs h i v
  obtain⟨code,pos,n,m,nm,op,y,C,d⟩:=x
  rw[RepL]at h
  obtain⟨b,e,z,rs,g,c,j,k,o,p,q,r,s,t,u,a⟩:=h
  subst j
  cases i with
  |zero =>
   refine⟨b,rfl,?_⟩
   show RepL w D [⟨code,pos,n,m,nm,op,y,C,d⟩] _
   rw[RepL]
   exact⟨b,e,z,rs,g,[],rfl,k,o,p,q,r,s,t,u,by rw[RepL]⟩
  |succ i =>
   obtain⟨f,A,B⟩:=ih c a i (by simpa using v)
   exact⟨f,by simpa using A,by simpa using B⟩
theorem jd (w:World)(b:Nat):Calls Tryz.prog 135 #[.pointer none,finderV b] w (CkP w none):=by
 unfold finderV
 go_enter Tryz.func135,Tryz.ntmps135
 go_wp2_with fail
 exact ze rfl rfl ⟨Below.refl _ _,rfl⟩
theorem yz (h:∀j,j<n->f j=none):(List.range n).findSome? f=none:=by
 rw[List.findSome?_eq_none_iff]
 intro j a
 exact h j (List.mem_range.1 a)
theorem zP {i:Nat}{x:Nat×Nat}(c:i<n)(h:∀j,j<i->f j=none)(g:f i=some x):(List.range n).findSome? f=some x:=by
 have e:List.range n=List.range i++i :: (List.range n).drop (i+1):=by
  have a:(List.range n)[i]?=some i:=by simp[c]
  have b:(List.range n).take i=List.range i:=by rw[List.take_range];congr 1;omega
  rw[<-b]
  obtain⟨d,e⟩:=List.getElem?_eq_some_iff.1 a
  conv=>lhs;rw[<-List.take_append_drop i (List.range n),List.drop_eq_getElem_cons d,e]
 rw[e,List.findSome?_append,yz h,List.findSome?_cons,g]
 rfl
def AskX (w:World) (b:Nat) (v:Value) (res:Option (Nat×Nat)):Prop:=∀W,Below w.heap.size w W->Calls Tryz.prog 135 #[v,finderV b] W (CkP W res)
theorem jM {x code:Nat}{pos n:Int}{md nm op:ByteArray}{lv rv aa:Option Addr}{d ac:Nat}(a8:w.heap[x]?=some (.cells #[.int .i64 (code:Int),.int .i64 pos,.int .i64 n,.string md,.string nm,.string op,.pointer lv,.pointer rv,.slice aa d ac] 236 (0,0)))
  {r0 r1 r2:Option (Nat×Nat)}{ra:Nat->Option (Nat×Nat)}
  (hR:(code=2\/code=3\/code=6)->Calls Tryz.prog 165 #[.pointer (some ⟨x,0,none⟩),finderV b] w (CkP w r0))(a7:¬(code=2\/code=3\/code=6)->r0=none)
  (hL:AskX w b (.pointer lv) r1)(b7:AskX w b (.pointer rv) r2)
  (hA:∀i,i<d->∃g y,aa=some ⟨g,0,none⟩/\g<w.heap.size/\w.cell? ⟨g,i,none⟩=some (.pointer (some ⟨y,0,none⟩))/\AskX w b (.pointer (some ⟨y,0,none⟩)) (ra i))(c1:d<=9223372036854775807){b8:Option (Nat×Nat)}(b6:b8=r0.or (r1.or (r2.or ((List.range d).findSome? ra)))) :
  Calls Tryz.prog 135 #[.pointer (some ⟨x,0,none⟩),finderV b] w (CkP w b8):=by
 have G:=zc a8
 have H:=zh a8
 have HL:=zh hL
 have a9:=zh b7
 have HA:=zh hA
 have v:=zh b6
 have c0:(d:Int)<=9223372036854775807:=by omega
 have k0:w.cell? ⟨x,0,none⟩=some (.int .i64 (code:Int)):=(za a8).trans rfl
 clear a8 hL b7 hA b6
 rcases(show code=2\/code=3\/code=6\/¬(code=2\/code=3\/code=6) by omega) with hcd|hcd|hcd|hcd
 ·have L:=zh (hR (by omega))
  subst hcd
  clear hR a7
  unfold finderV at *
  go_enter Tryz.func135,Tryz.ntmps135
  go_wp2_with fail
  refine L.out.mono ?_
  intro e X a
  cases r0 with
  |some er =>
   have f:=zh a
   obtain⟨h,c⟩:=a
   obtain⟨F,l,rfl,m,o⟩:=c.out
   clear h c l m o k0 L
   go_wp2_with fail
   refine⟨rfl,?_⟩
   rw[v.out]
   exact f.out
  |none =>
   obtain⟨Y,rfl⟩:=a
   have t:=zh Y
   clear Y k0 L
   have a0:=t.out.size
   have S:=(t.out.block x G).trans H.out
   have V:X.cell? ⟨x,6,none⟩=some (.pointer lv):=(za S).trans rfl
   have b3:x<X.heap.size:=by omega
   have J:=zh (HL.out X t.out)
   clear S
   go_wp2_with fail
   refine J.out.mono ?_
   intro e z a
   cases r1 with
   |some er =>
    have f:=zh (CkP.up a t.out)
    obtain⟨h,c⟩:=a
    obtain⟨F,l,rfl,m,o⟩:=c.out
    clear h c l m o V
    go_wp2_with fail
    refine⟨rfl,?_⟩
    rw[v.out]
    exact f.out
   |none =>
    obtain⟨M,rfl⟩:=a
    have u:Hid (Below w.heap.size w z):=t.out.trans (M.mono a0)
    have a1:=u.out.size
    have T:=(u.out.block x G).trans H.out
    have W:z.cell? ⟨x,7,none⟩=some (.pointer rv):=(za T).trans rfl
    have b4:x<z.heap.size:=by omega
    have K:=zh (a9.out z u.out)
    clear T M V J
    go_wp2_with fail
    refine K.out.mono ?_
    intro e E a
    cases r2 with
    |some er =>
     have f:=zh (CkP.up a u.out)
     obtain⟨h,c⟩:=a
     obtain⟨F,l,rfl,m,o⟩:=c.out
     clear h c l m o W
     go_wp2_with fail
     refine⟨rfl,?_⟩
     rw[v.out]
     exact f.out
    |none =>
     obtain⟨N,rfl⟩:=a
     have A:Hid (Below w.heap.size w E):=u.out.trans (N.mono a1)
     have b1:=A.out.size
     have U:=(A.out.block x G).trans H.out
     have k8:E.cell? ⟨x,8,none⟩=some (.slice aa d ac):=(za U).trans rfl
     have b5:x<E.heap.size:=by omega
     clear U N W K
     go_wp2_with fail
     go_loopg [47] d (fun k vi wr=>∃i:Nat,i<=d/\k=d-i/\vi=.int .i64 (i:Int)/\Hid (Below w.heap.size w wr)/\Hid (∀j,j<i->ra j=none))
     case atStart=>exact⟨0,by omega,by omega,rfl,A,fun j D=>absurd D (by omega)⟩
     case round =>
      obtain⟨i,b2,hk,rfl,s,C⟩:=hrel
      have a2:=s.out.size
      by_cases Q:i<d
      ·have Z:(i:Int)<(d:Int):=by omega
       obtain⟨g,y,a5,a6,P,I⟩:=HA.out i Q
       have kc:wr.cell? ⟨g,i,none⟩=some (.pointer (some ⟨y,0,none⟩)):=(s.out.cell (p:=⟨g,i,none⟩) a6).trans P
       have b0:g<wr.heap.size:=by omega
       subst a5
       have R:=zh (I wr s.out)
       clear P I
       go_wp2_with fail
       refine R.out.mono ?_
       intro e w4 a
       cases r:ra i with
       |some er =>
        rw[r]at a
        have f:=zh (CkP.up a s.out)
        have B:=zh (zP Q C.out r)
        obtain⟨h,c⟩:=a
        obtain⟨F,l,rfl,m,o⟩:=c.out
        clear h c l m o r
        go_wp2_with fail
        refine⟨rfl,?_⟩
        rw[v.out,B.out]
        exact f.out
       |none =>
        rw[r]at a
        obtain⟨O,rfl⟩:=a
        have a3:Hid (Below w.heap.size w w4):=s.out.trans (O.mono a2)
        have a4:Hid (∀j,j<i+1->ra j=none):=fun j D=>by
         rcases Nat.lt_or_ge j i with q|q
         ·exact C.out j q
         ·have:j=i:=by omega
          subst this
          exact r
        clear O r R
        go_wp2_with fail
        go_roundg (d-(i+1))
        case measure=>omega
        case rel=>exact⟨i+1,by omega,rfl,by go_num,a3,a4⟩
      ·have Z:¬(i:Int)<(d:Int):=by omega
       have B:Hid ((List.range d).findSome? ra=none):=yz (fun j D=>C.out j (by omega))
       go_wp2_with fail
       refine ze rfl rfl ⟨s.out,?_⟩
       rw[v.out,B.out]
       rfl
 ·have L:=zh (hR (by omega))
  subst hcd
  clear hR a7
  unfold finderV at *
  go_enter Tryz.func135,Tryz.ntmps135
  go_wp2_with fail
  refine L.out.mono ?_
  intro e X a
  cases r0 with
  |some er =>
   have f:=zh a
   obtain⟨h,c⟩:=a
   obtain⟨F,l,rfl,m,o⟩:=c.out
   clear h c l m o k0 L
   go_wp2_with fail
   refine⟨rfl,?_⟩
   rw[v.out]
   exact f.out
  |none =>
   obtain⟨Y,rfl⟩:=a
   have t:=zh Y
   clear Y k0 L
   have a0:=t.out.size
   have S:=(t.out.block x G).trans H.out
   have V:X.cell? ⟨x,6,none⟩=some (.pointer lv):=(za S).trans rfl
   have b3:x<X.heap.size:=by omega
   have J:=zh (HL.out X t.out)
   clear S
   go_wp2_with fail
   refine J.out.mono ?_
   intro e z a
   cases r1 with
   |some er =>
    have f:=zh (CkP.up a t.out)
    obtain⟨h,c⟩:=a
    obtain⟨F,l,rfl,m,o⟩:=c.out
    clear h c l m o V
    go_wp2_with fail
    refine⟨rfl,?_⟩
    rw[v.out]
    exact f.out
   |none =>
    obtain⟨M,rfl⟩:=a
    have u:Hid (Below w.heap.size w z):=t.out.trans (M.mono a0)
    have a1:=u.out.size
    have T:=(u.out.block x G).trans H.out
    have W:z.cell? ⟨x,7,none⟩=some (.pointer rv):=(za T).trans rfl
    have b4:x<z.heap.size:=by omega
    have K:=zh (a9.out z u.out)
    clear T M V J
    go_wp2_with fail
    refine K.out.mono ?_
    intro e E a
    cases r2 with
    |some er =>
     have f:=zh (CkP.up a u.out)
     obtain⟨h,c⟩:=a
     obtain⟨F,l,rfl,m,o⟩:=c.out
     clear h c l m o W
     go_wp2_with fail
     refine⟨rfl,?_⟩
     rw[v.out]
     exact f.out
    |none =>
     obtain⟨N,rfl⟩:=a
     have A:Hid (Below w.heap.size w E):=u.out.trans (N.mono a1)
     have b1:=A.out.size
     have U:=(A.out.block x G).trans H.out
     have k8:E.cell? ⟨x,8,none⟩=some (.slice aa d ac):=(za U).trans rfl
     have b5:x<E.heap.size:=by omega
     clear U N W K
     go_wp2_with fail
     go_loopg [47] d (fun k vi wr=>∃i:Nat,i<=d/\k=d-i/\vi=.int .i64 (i:Int)/\Hid (Below w.heap.size w wr)/\Hid (∀j,j<i->ra j=none))
     case atStart=>exact⟨0,by omega,by omega,rfl,A,fun j D=>absurd D (by omega)⟩
     case round =>
      obtain⟨i,b2,hk,rfl,s,C⟩:=hrel
      have a2:=s.out.size
      by_cases Q:i<d
      ·have Z:(i:Int)<(d:Int):=by omega
       obtain⟨g,y,a5,a6,P,I⟩:=HA.out i Q
       have kc:wr.cell? ⟨g,i,none⟩=some (.pointer (some ⟨y,0,none⟩)):=(s.out.cell (p:=⟨g,i,none⟩) a6).trans P
       have b0:g<wr.heap.size:=by omega
       subst a5
       have R:=zh (I wr s.out)
       clear P I
       go_wp2_with fail
       refine R.out.mono ?_
       intro e w4 a
       cases r:ra i with
       |some er =>
        rw[r]at a
        have f:=zh (CkP.up a s.out)
        have B:=zh (zP Q C.out r)
        obtain⟨h,c⟩:=a
        obtain⟨F,l,rfl,m,o⟩:=c.out
        clear h c l m o r
        go_wp2_with fail
        refine⟨rfl,?_⟩
        rw[v.out,B.out]
        exact f.out
       |none =>
        rw[r]at a
        obtain⟨O,rfl⟩:=a
        have a3:Hid (Below w.heap.size w w4):=s.out.trans (O.mono a2)
        have a4:Hid (∀j,j<i+1->ra j=none):=fun j D=>by
         rcases Nat.lt_or_ge j i with q|q
         ·exact C.out j q
         ·have:j=i:=by omega
          subst this
          exact r
        clear O r R
        go_wp2_with fail
        go_roundg (d-(i+1))
        case measure=>omega
        case rel=>exact⟨i+1,by omega,rfl,by go_num,a3,a4⟩
      ·have Z:¬(i:Int)<(d:Int):=by omega
       have B:Hid ((List.range d).findSome? ra=none):=yz (fun j D=>C.out j (by omega))
       go_wp2_with fail
       refine ze rfl rfl ⟨s.out,?_⟩
       rw[v.out,B.out]
       rfl
 ·have L:=zh (hR (by omega))
  subst hcd
  clear hR a7
  unfold finderV at *
  go_enter Tryz.func135,Tryz.ntmps135
  go_wp2_with fail
  refine L.out.mono ?_
  intro e X a
  cases r0 with
  |some er =>
   have f:=zh a
   obtain⟨h,c⟩:=a
   obtain⟨F,l,rfl,m,o⟩:=c.out
   clear h c l m o k0 L
   go_wp2_with fail
   refine⟨rfl,?_⟩
   rw[v.out]
   exact f.out
  |none =>
   obtain⟨Y,rfl⟩:=a
   have t:=zh Y
   clear Y k0 L
   have a0:=t.out.size
   have S:=(t.out.block x G).trans H.out
   have V:X.cell? ⟨x,6,none⟩=some (.pointer lv):=(za S).trans rfl
   have b3:x<X.heap.size:=by omega
   have J:=zh (HL.out X t.out)
   clear S
   go_wp2_with fail
   refine J.out.mono ?_
   intro e z a
   cases r1 with
   |some er =>
    have f:=zh (CkP.up a t.out)
    obtain⟨h,c⟩:=a
    obtain⟨F,l,rfl,m,o⟩:=c.out
    clear h c l m o V
    go_wp2_with fail
    refine⟨rfl,?_⟩
    rw[v.out]
    exact f.out
   |none =>
    obtain⟨M,rfl⟩:=a
    have u:Hid (Below w.heap.size w z):=t.out.trans (M.mono a0)
    have a1:=u.out.size
    have T:=(u.out.block x G).trans H.out
    have W:z.cell? ⟨x,7,none⟩=some (.pointer rv):=(za T).trans rfl
    have b4:x<z.heap.size:=by omega
    have K:=zh (a9.out z u.out)
    clear T M V J
    go_wp2_with fail
    refine K.out.mono ?_
    intro e E a
    cases r2 with
    |some er =>
     have f:=zh (CkP.up a u.out)
     obtain⟨h,c⟩:=a
     obtain⟨F,l,rfl,m,o⟩:=c.out
     clear h c l m o W
     go_wp2_with fail
     refine⟨rfl,?_⟩
     rw[v.out]
     exact f.out
    |none =>
     obtain⟨N,rfl⟩:=a
     have A:Hid (Below w.heap.size w E):=u.out.trans (N.mono a1)
     have b1:=A.out.size
     have U:=(A.out.block x G).trans H.out
     have k8:E.cell? ⟨x,8,none⟩=some (.slice aa d ac):=(za U).trans rfl
     have b5:x<E.heap.size:=by omega
     clear U N W K
     go_wp2_with fail
     go_loopg [47] d (fun k vi wr=>∃i:Nat,i<=d/\k=d-i/\vi=.int .i64 (i:Int)/\Hid (Below w.heap.size w wr)/\Hid (∀j,j<i->ra j=none))
     case atStart=>exact⟨0,by omega,by omega,rfl,A,fun j D=>absurd D (by omega)⟩
     case round =>
      obtain⟨i,b2,hk,rfl,s,C⟩:=hrel
      have a2:=s.out.size
      by_cases Q:i<d
      ·have Z:(i:Int)<(d:Int):=by omega
       obtain⟨g,y,a5,a6,P,I⟩:=HA.out i Q
       have kc:wr.cell? ⟨g,i,none⟩=some (.pointer (some ⟨y,0,none⟩)):=(s.out.cell (p:=⟨g,i,none⟩) a6).trans P
       have b0:g<wr.heap.size:=by omega
       subst a5
       have R:=zh (I wr s.out)
       clear P I
       go_wp2_with fail
       refine R.out.mono ?_
       intro e w4 a
       cases r:ra i with
       |some er =>
        rw[r]at a
        have f:=zh (CkP.up a s.out)
        have B:=zh (zP Q C.out r)
        obtain⟨h,c⟩:=a
        obtain⟨F,l,rfl,m,o⟩:=c.out
        clear h c l m o r
        go_wp2_with fail
        refine⟨rfl,?_⟩
        rw[v.out,B.out]
        exact f.out
       |none =>
        rw[r]at a
        obtain⟨O,rfl⟩:=a
        have a3:Hid (Below w.heap.size w w4):=s.out.trans (O.mono a2)
        have a4:Hid (∀j,j<i+1->ra j=none):=fun j D=>by
         rcases Nat.lt_or_ge j i with q|q
         ·exact C.out j q
         ·have:j=i:=by omega
          subst this
          exact r
        clear O r R
        go_wp2_with fail
        go_roundg (d-(i+1))
        case measure=>omega
        case rel=>exact⟨i+1,by omega,rfl,by go_num,a3,a4⟩
      ·have Z:¬(i:Int)<(d:Int):=by omega
       have B:Hid ((List.range d).findSome? ra=none):=yz (fun j D=>C.out j (by omega))
       go_wp2_with fail
       refine ze rfl rfl ⟨s.out,?_⟩
       rw[v.out,B.out]
       rfl
 ·have b9:=a7 hcd
  have h2:((code:Int)==2)=false:=by simp;omega
  have h3:((code:Int)==3)=false:=by simp;omega
  have h6:((code:Int)==6)=false:=by simp;omega
  subst b9
  have t:Hid (Below w.heap.size w w):=Below.refl _ _
  clear hR a7 hcd
  unfold finderV at *
  go_enter Tryz.func135,Tryz.ntmps135
  have a0:=t.out.size
  have S:=(t.out.block x G).trans H.out
  have V:w.cell? ⟨x,6,none⟩=some (.pointer lv):=(za S).trans rfl
  have b3:x<w.heap.size:=by omega
  have J:=zh (HL.out w t.out)
  clear S
  go_wp2_with fail
  refine J.out.mono ?_
  intro e z a
  cases r1 with
  |some er =>
   have f:=zh (CkP.up a t.out)
   obtain⟨h,c⟩:=a
   obtain⟨F,l,rfl,m,o⟩:=c.out
   clear h c l m o V
   go_wp2_with fail
   refine⟨rfl,?_⟩
   rw[v.out]
   exact f.out
  |none =>
   obtain⟨M,rfl⟩:=a
   have u:Hid (Below w.heap.size w z):=t.out.trans (M.mono a0)
   have a1:=u.out.size
   have T:=(u.out.block x G).trans H.out
   have W:z.cell? ⟨x,7,none⟩=some (.pointer rv):=(za T).trans rfl
   have b4:x<z.heap.size:=by omega
   have K:=zh (a9.out z u.out)
   clear T M V J
   go_wp2_with fail
   refine K.out.mono ?_
   intro e E a
   cases r2 with
   |some er =>
    have f:=zh (CkP.up a u.out)
    obtain⟨h,c⟩:=a
    obtain⟨F,l,rfl,m,o⟩:=c.out
    clear h c l m o W
    go_wp2_with fail
    refine⟨rfl,?_⟩
    rw[v.out]
    exact f.out
   |none =>
    obtain⟨N,rfl⟩:=a
    have A:Hid (Below w.heap.size w E):=u.out.trans (N.mono a1)
    have b1:=A.out.size
    have U:=(A.out.block x G).trans H.out
    have k8:E.cell? ⟨x,8,none⟩=some (.slice aa d ac):=(za U).trans rfl
    have b5:x<E.heap.size:=by omega
    clear U N W K
    go_wp2_with fail
    go_loopg [47] d (fun k vi wr=>∃i:Nat,i<=d/\k=d-i/\vi=.int .i64 (i:Int)/\Hid (Below w.heap.size w wr)/\Hid (∀j,j<i->ra j=none))
    case atStart=>exact⟨0,by omega,by omega,rfl,A,fun j D=>absurd D (by omega)⟩
    case round =>
     obtain⟨i,b2,hk,rfl,s,C⟩:=hrel
     have a2:=s.out.size
     by_cases Q:i<d
     ·have Z:(i:Int)<(d:Int):=by omega
      obtain⟨g,y,a5,a6,P,I⟩:=HA.out i Q
      have kc:wr.cell? ⟨g,i,none⟩=some (.pointer (some ⟨y,0,none⟩)):=(s.out.cell (p:=⟨g,i,none⟩) a6).trans P
      have b0:g<wr.heap.size:=by omega
      subst a5
      have R:=zh (I wr s.out)
      clear P I
      go_wp2_with fail
      refine R.out.mono ?_
      intro e w4 a
      cases r:ra i with
      |some er =>
       rw[r]at a
       have f:=zh (CkP.up a s.out)
       have B:=zh (zP Q C.out r)
       obtain⟨h,c⟩:=a
       obtain⟨F,l,rfl,m,o⟩:=c.out
       clear h c l m o r
       go_wp2_with fail
       refine⟨rfl,?_⟩
       rw[v.out,B.out]
       exact f.out
      |none =>
       rw[r]at a
       obtain⟨O,rfl⟩:=a
       have a3:Hid (Below w.heap.size w w4):=s.out.trans (O.mono a2)
       have a4:Hid (∀j,j<i+1->ra j=none):=fun j D=>by
        rcases Nat.lt_or_ge j i with q|q
        ·exact C.out j q
        ·have:j=i:=by omega
         subst this
         exact r
       clear O r R
       go_wp2_with fail
       go_roundg (d-(i+1))
       case measure=>omega
       case rel=>exact⟨i+1,by omega,rfl,by go_num,a3,a4⟩
     ·have Z:¬(i:Int)<(d:Int):=by omega
      have B:Hid ((List.range d).findSome? ra=none):=yz (fun j D=>C.out j (by omega))
      go_wp2_with fail
      refine ze rfl rfl ⟨s.out,?_⟩
      rw[v.out,B.out]
      rfl
theorem find_range (J:Jd):∀(a:List X),(List.range a.length).findSome? (fun i=>(a[i]?).bind fun y=>(Tp.rx [y]).findSome? J)=(Tp.rx a).findSome? J:=by
 intro a
 induction a with
 |nil=>simp[Tp.rx]
 |cons x l ih =>
  rw[xx,List.findSome?_append,<-ih,List.length_cons,List.range_succ_eq_map,List.findSome?_cons,List.findSome?_map]
  have b:((fun i=>((x :: l)[i]?).bind fun y=>(Tp.rx [y]).findSome? J) ∘ Nat.succ)=fun i=>(l[i]?).bind fun y=>(Tp.rx [y]).findSome? J:=by
   funext i
   simp
  rw[b]
  simp only[List.getElem?_cons_zero,Option.bind_some]
  cases (Tp.rx [x]).findSome? J<;>rfl
theorem xQ {L:World}{Sn:Seen}{fs:Near}(hF:Fnd L b Sn fs)(a7:fs.length<=1000):∀(n:Nat) (x:X),SizeOf.sizeOf x<=n->Sm (Tp.rx [x])->∀(w:World) (D:Nat->Prop) (M:Nat),Below L.heap.size L w->RepL w D [x] [.pointer (some ⟨M,0,none⟩)] ->
  Calls Tryz.prog 135 #[.pointer (some ⟨M,0,none⟩),finderV b] w (CkP w ((Tp.rx [x]).findSome? (Tp.judgeP (Tp.standV Sn fs)))):=by
 intro n
 induction n with
 |zero=>intro x J;cases x;simp at J
 |succ n ih =>
  intro x J K w D M A h
  obtain⟨code,pos,B,j,nm,op,p,q,c⟩:=x
  simp at J
  have h0:=h
  rw[RepL]at h
  obtain⟨b',av,ls,rs,gs,b3,h1,h2,F,R,h5,S,h7,T,h9,_⟩:=h
  injection h1 with h1a _
  injection h1a with h1b
  injection h1b with h1c
  injection h1c with h1d
  subst h1d
  have b1:=RepL.len _ _ R
  have b2:=RepL.len _ _ S
  have O:=RepL.len _ _ T
  have u:=rx_one code pos B j nm op p q c
  have N:∀(l:List X) (vs:List Value),SizeOf.sizeOf l<=n->(∀r∈Tp.rx l,r∈Tp.rx [(⟨code,pos,B,j,nm,op,p,q,c⟩:X)])->RepL w D l vs->vs.length<=1->(∃a,vs.headD (.pointer none)=.pointer a)/\AskX w b (vs.headD (.pointer none)) ((Tp.rx l).findSome? (Tp.judgeP (Tp.standV Sn fs))):=by
   intro l vs hl a1 d a8
   have P:=RepL.len _ _ d
   match l,vs,d with
   |[],vs,d =>
    rw[RepL]at d
    subst d
    refine⟨⟨none,rfl⟩,fun W s=>?_⟩
    have:(Tp.rx []).findSome? (Tp.judgeP (Tp.standV Sn fs))=none:=by simp[Tp.rx]
    rw[this]
    exact jd W b
   |[y],vs,d =>
    obtain⟨E,k,C⟩:=RepL.get _ _ d 0 (by simp)
    have hv:vs=[.pointer (some ⟨E,0,none⟩)]:=by
     match vs,a8,P with
     |[v],_,_=>simp at k;rw[k]
    subst hv
    refine⟨⟨_,rfl⟩,fun W s=>?_⟩
    have H:SizeOf.sizeOf y<=n:=by simp at hl;omega
    exact ih y H (K.sub a1) W D E (A.trans (s.mono A.size)) (d.step s)
   |y :: z :: t,vs,d=>simp at P;omega
  have a2:∀r∈Tp.rx p,r∈Tp.rx [(⟨code,pos,B,j,nm,op,p,q,c⟩:X)]:=fun r o=>by rw[u];simp[o]
  have a3:∀r∈Tp.rx q,r∈Tp.rx [(⟨code,pos,B,j,nm,op,p,q,c⟩:X)]:=fun r o=>by rw[u];simp[o]
  have a4:∀r∈Tp.rx c,r∈Tp.rx [(⟨code,pos,B,j,nm,op,p,q,c⟩:X)]:=fun r o=>by rw[u];simp[o]
  obtain⟨⟨lv,a9⟩,U⟩:=N p ls (by omega) a2 R h5
  obtain⟨⟨rv,b0⟩,V⟩:=N q rs (by omega) a3 S h7
  rw[a9]at F U
  rw[b0]at F V
  have a6:∃I Q,av=.slice I c.length Q/\c.length<=9223372036854775807/\∀i,i<c.length->∃g,I=some ⟨g,0,none⟩/\g<w.heap.size/\w.cell? ⟨g,i,none⟩=gs[i]?:=by
   rcases h9 with⟨k,C⟩|⟨g,cap,cur,k,C,G,Z,q5,q6,q7⟩
   ·have:c.length=0:=by rw[<-O,k];rfl
    exact⟨none,0,by rw[this];exact C,by omega,fun i m=>by omega⟩
   ·refine⟨_,cap,by rw[<-O];exact k,?_,fun i m=>⟨g,rfl,zc G,?_⟩⟩
    ·have:maxLen=9223372036854775807:=rfl
     omega
    ·rw[za G,<-Array.getElem?_toList,<-q7,List.getElem?_take_of_lt (by omega)]
  obtain⟨I,Q,rfl,a5,a0⟩:=a6
  ·refine jM (r0:=if code=2\/code=3\/code=6 then Tp.judgeP (Tp.standV Sn fs) ⟨code,pos,j,nm,c.length⟩ else none) (ra:=fun i=>(c[i]?).bind fun y=>(Tp.rx [y]).findSome? (Tp.judgeP (Tp.standV Sn fs))) F ?_ (fun f=>if_neg f) U V ?_ a5 ?_
   ·intro f
    rw[if_pos f]
    have Y:=K ⟨code,pos,j,nm,c.length⟩ (by rw[u,if_pos f];simp)
    exact jc (r:=⟨code,pos,j,nm,c.length⟩) (hF.on A) a7 ⟨_,_,_,_,_,_,F⟩ Y.1 Y.2 (by simp only;omega)
   ·intro i m
    obtain⟨g,k,C,G⟩:=a0 i m
    obtain⟨E,Z,q5⟩:=RepL.get _ _ T i m
    refine⟨g,E,k,C,G.trans Z,fun W s=>?_⟩
    simp only[List.getElem?_eq_getElem m,Option.bind_some]
    have H:SizeOf.sizeOf c[i]<=n:=by
     have:=List.sizeOf_lt_of_mem (List.getElem_mem m)
     omega
    refine ih c[i] H (K.sub fun r o=>a4 r ?_) W D E (A.trans (s.mono A.size)) (q5.step s)
    have e:c=c.take i++c[i] :: c.drop (i+1):=by rw[<-List.drop_eq_getElem_cons m,List.take_append_drop]
    rw[e,rx_app,xx]
    simp[o]
   ·rw[find_range,u,List.findSome?_append,List.findSome?_append,List.findSome?_append]
    congr 1
    by_cases f:code=2\/code=3\/code=6
    ·rw[if_pos f,if_pos f,List.findSome?_cons]
     cases Tp.judgeP (Tp.standV Sn fs) ⟨code,pos,j,nm,c.length⟩<;>rfl
    ·rw[if_neg f,if_neg f];rfl
def AskS (w:World) (b:Nat) (v:Value) (res:Option (Nat×Nat)):Prop:=∀W,Below w.heap.size w W->Calls Tryz.prog 88 #[v,finderV b] W (CkP W res)
def AskPl (w:World) (b:Nat) (v:Value) (res:Option (Nat×Nat)):Prop:=∀W,Below w.heap.size w W->Calls Tryz.prog 134 #[v,finderV b] W (CkP W res)
structure St1 (w:World) (b:Nat) (a:Option Addr) (i:Nat) (q:Option (Nat×Nat)):Prop where
 out:∃(g code:Nat) (pos:Int) (nm:ByteArray) (iv vv ta ea:Option Addr) (tn tc en ec:Nat) (p0 r1 r2 r3 r4:Option (Nat×Nat)),a=some ⟨g,0,none⟩/\g<w.heap.size /\
  w.cell? ⟨g,i*7,none⟩=some (.int .i64 (code:Int))/\w.cell? ⟨g,i*7+1,none⟩=some (.int .i64 pos)/\w.cell? ⟨g,i*7+2,none⟩=some (.string nm)/\w.cell? ⟨g,i*7+3,none⟩=some (.pointer iv)/\w.cell? ⟨g,i*7+4,none⟩=some (.pointer vv)/\w.cell? ⟨g,i*7+5,none⟩=some (.slice ta tn tc)/\w.cell? ⟨g,i*7+6,none⟩=some (.slice ea en ec) /\
  (code=1->AskPl w b (.agg #[.int .i64 (code:Int),.int .i64 pos,.string nm,.pointer iv,.pointer vv,.slice ta tn tc,.slice ea en ec]) p0)/\(code≠1->p0=none) /\
  AskX w b (.pointer iv) r1/\AskX w b (.pointer vv) r2/\AskS w b (.slice ta tn tc) r3/\AskS w b (.slice ea en ec) r4/\q=p0.or (r1.or (r2.or (r3.or r4)))
theorem xi {a c d e f g i:Value}{t:TypeId}(h:w.heap[b]?=some (.cells #[a,c,d,e,f,g,i] t (0,0))):w.cell? ⟨b,0,none⟩=some a/\w.cell? ⟨b,1,none⟩=some c/\w.cell? ⟨b,2,none⟩=some d/\w.cell? ⟨b,3,none⟩=some e/\w.cell? ⟨b,4,none⟩=some f/\w.cell? ⟨b,5,none⟩=some g/\w.cell? ⟨b,6,none⟩=some i :=
 ⟨(za h).trans rfl,(za h).trans rfl,(za h).trans rfl,(za h).trans rfl,(za h).trans rfl,(za h).trans rfl,(za h).trans rfl⟩
theorem jG {a:Option Addr}{c:Nat}{q:Nat->Option (Nat×Nat)}(d:∀i,i<n->St1 w b a i (q i))(hn:n<=9223372036854775807) :
  Calls Tryz.prog 88 #[.slice a n c,finderV b] w (CkP w ((List.range n).findSome? q)):=by
 have HQ:=zh d
 have d6:(n:Int)<=9223372036854775807:=by omega
 clear d
 have Z:Hid (∀W v B,AskX w b v B->Below w.heap.size w W->Calls Tryz.prog 135 #[v,.func (.func 136) #[] #[.pointer (some ⟨b,0,none⟩),.pointer (some ⟨b+1,0,none⟩)]] W (CkP W B)):=fun W v B h U=>h W U
 have Y:Hid (∀W v B,AskS w b v B->Below w.heap.size w W->Calls Tryz.prog 88 #[v,.func (.func 136) #[] #[.pointer (some ⟨b,0,none⟩),.pointer (some ⟨b+1,0,none⟩)]] W (CkP W B)):=fun W v B h U=>h W U
 have c9:Hid (∀W v B,AskPl w b v B->Below w.heap.size w W->Calls Tryz.prog 134 #[v,.func (.func 136) #[] #[.pointer (some ⟨b,0,none⟩),.pointer (some ⟨b+1,0,none⟩)]] W (CkP W B)):=fun W v B h U=>h W U
 unfold finderV
 go_enter Tryz.func88,Tryz.ntmps88
 go_wp2_with fail
 go_loopg [8] n (fun k vi wr=>∃i:Nat,i<=n/\k=n-i/\vi=.int .i64 (i:Int)/\Hid (Below w.heap.size w wr)/\Hid (∀j,j<i->q j=none))
 case atStart=>exact⟨0,by omega,by omega,rfl,Below.refl _ _,fun j hj=>absurd hj (by omega)⟩
 case round =>
  obtain⟨i,d5,hk,rfl,HB,z⟩:=hrel
  have c8:=HB.out.size
  by_cases C:i<n
  ·have c7:(i:Int)<(n:Int):=by omega
   obtain⟨g,code,pos,nm,iv,vv,ta,ea,tn,tc,en,ec,p0,r1,r2,r3,r4,d0,d1,c0,c1,c2,c3,c4,c5,c6,ap,a8,a1,a2,a3,a4,b0⟩:=(HQ.out i C).out
   subst d0
   have I:∀(o:Nat) (u:Value),w.cell? ⟨g,o,none⟩=some u->wr.cell? ⟨g,o,none⟩=some u:=fun o u h=>(HB.out.cell (p:=⟨g,o,none⟩) d1).trans h
   have b1:=I _ _ c0
   have b2:=I _ _ c1
   have b3:=I _ _ c2
   have b4:=I _ _ c3
   have b5:=I _ _ c4
   have b6:=I _ _ c5
   have b7:=I _ _ c6
   have d4:g<wr.heap.size:=by omega
   obtain⟨G,O⟩:∃G,G=wr.alloc (.cells #[.int .i64 (code:Int),.int .i64 pos,.string nm,.pointer iv,.pointer vv,.slice ta tn tc,.slice ea en ec] 216):=⟨_,rfl⟩
   have J:Hid (Below w.heap.size w G):=by rw[O];exact HB.out.alloc c8 _
   have P:Hid (G.heap[wr.heap.size]?=some (.cells #[.int .i64 (code:Int),.int .i64 pos,.string nm,.pointer iv,.pointer vv,.slice ta tn tc,.slice ea en ec] 216 (0,0))):=by rw[O];exact zl _ _
   have d3:wr.heap.size<G.heap.size:=by rw[O];simp
   have A1:=zh a1
   have A2:=zh a2
   have A3:=zh a3
   have A4:=zh a4
   have A:=zh b0
   clear c0 c1 c2 c3 c4 c5 c6 I a1 a2 a3 a4 b0
   by_cases a5:code=1
   ·have AP:=zh (ap a5)
    have b9:((code:Int)==1)=true:=by simp;omega
    clear ap a8 a5
    go_wp2_with fail
    rw[<-O]
    refine(c9.out G _ _ AP.out J.out).mono ?_
    intro e V d
    cases p0 with
    |some er =>
     have r:=zh (CkP.up d J.out)
     have m:Hid ((List.range n).findSome? q=some er):=zP C z.out (by rw[A.out];rfl)
     obtain⟨s,l⟩:=d
     obtain⟨K,t,rfl,x,y⟩:=l.out
     clear s l t x y
     go_wp2_with fail
     refine⟨rfl,?_⟩
     rw[m.out]
     exact r.out
    |none =>
     obtain⟨a9,rfl⟩:=d
     have a0:Hid (Below w.heap.size w V):=J.out.trans (a9.mono J.out.size)
     have X:Hid (V.heap[wr.heap.size]?=some (.cells #[.int .i64 (code:Int),.int .i64 pos,.string nm,.pointer iv,.pointer vv,.slice ta tn tc,.slice ea en ec] 216 (0,0))):=(a9.block _ d3).trans P.out
     clear a9 AP b1 b2 b3 b4 b5 b6 b7 O
     have m3:V.cell? ⟨wr.heap.size,3,none⟩=some (.pointer iv):=(za X.out).trans rfl
     have Q:wr.heap.size<V.heap.size:=zc X.out
     have m0:=(xi X.out).1
     go_wp2_with fail
     refine(Z.out V _ _ A1.out a0.out).mono ?_
     intro e H d
     cases r1 with
     |some er =>
      have r:=zh (CkP.up d a0.out)
      have m:Hid ((List.range n).findSome? q=some er):=zP C z.out (by rw[A.out];rfl)
      obtain⟨s,l⟩:=d
      obtain⟨K,t,rfl,x,y⟩:=l.out
      clear s l t x y
      go_wp2_with fail
      refine⟨rfl,?_⟩
      rw[m.out]
      exact r.out
     |none =>
      obtain⟨f,rfl⟩:=d
      have D:Hid (Below w.heap.size w H):=a0.out.trans (f.mono a0.out.size)
      have L:=zh ((f.block _ Q).trans X.out)
      clear f m3 Q m0
      have m4:H.cell? ⟨wr.heap.size,4,none⟩=some (.pointer vv):=(za L.out).trans rfl
      have R:wr.heap.size<H.heap.size:=zc L.out
      go_wp2_with fail
      refine(Z.out H _ _ A2.out D.out).mono ?_
      intro e x2 d
      cases r2 with
      |some er =>
       have r:=zh (CkP.up d D.out)
       have m:Hid ((List.range n).findSome? q=some er):=zP C z.out (by rw[A.out];rfl)
       obtain⟨s,l⟩:=d
       obtain⟨K,t,rfl,x,y⟩:=l.out
       clear s l t x y
       go_wp2_with fail
       refine⟨rfl,?_⟩
       rw[m.out]
       exact r.out
      |none =>
       obtain⟨f,rfl⟩:=d
       have E:Hid (Below w.heap.size w x2):=D.out.trans (f.mono D.out.size)
       have M:=zh ((f.block _ R).trans L.out)
       clear f m4 R
       have m5:x2.cell? ⟨wr.heap.size,5,none⟩=some (.slice ta tn tc):=(za M.out).trans rfl
       have S:wr.heap.size<x2.heap.size:=zc M.out
       go_wp2_with fail
       refine(Y.out x2 _ _ A3.out E.out).mono ?_
       intro e x3 d
       cases r3 with
       |some er =>
        have r:=zh (CkP.up d E.out)
        have m:Hid ((List.range n).findSome? q=some er):=zP C z.out (by rw[A.out];rfl)
        obtain⟨s,l⟩:=d
        obtain⟨K,t,rfl,x,y⟩:=l.out
        clear s l t x y
        go_wp2_with fail
        refine⟨rfl,?_⟩
        rw[m.out]
        exact r.out
       |none =>
        obtain⟨f,rfl⟩:=d
        have F:Hid (Below w.heap.size w x3):=E.out.trans (f.mono E.out.size)
        have N:=zh ((f.block _ S).trans M.out)
        clear f m5 S
        have m6:x3.cell? ⟨wr.heap.size,6,none⟩=some (.slice ea en ec):=(za N.out).trans rfl
        have T:wr.heap.size<x3.heap.size:=zc N.out
        go_wp2_with fail
        refine(Y.out x3 _ _ A4.out F.out).mono ?_
        intro e x4 d
        cases r4 with
        |some er =>
         have r:=zh (CkP.up d F.out)
         have m:Hid ((List.range n).findSome? q=some er):=zP C z.out (by rw[A.out];rfl)
         obtain⟨s,l⟩:=d
         obtain⟨K,t,rfl,x,y⟩:=l.out
         clear s l t x y
         go_wp2_with fail
         refine⟨rfl,?_⟩
         rw[m.out]
         exact r.out
        |none =>
         obtain⟨f,rfl⟩:=d
         have a6:Hid (Below w.heap.size w x4):=F.out.trans (f.mono F.out.size)
         have b8:=zh ((f.block _ T).trans N.out)
         clear f m6 T
         have a7:Hid (∀j,j<i+1->q j=none):=fun j hj=>by
          rcases Nat.lt_or_ge j i with q|q
          ·exact z.out j q
          ·have:j=i:=by omega
           subst this
           rw[A.out]
           rfl
         go_wp2_with fail
         go_roundg (n-(i+1))
         case measure=>omega
         case rel=>exact⟨i+1,by omega,rfl,by go_num,a6,a7⟩
   ·have d2:=a8 a5
    have b9:((code:Int)==1)=false:=by simp;omega
    subst d2
    clear ap a8 a5
    go_upto_region 3 with fail
    rw[<-O]
    clear b1 b2 b3 b4 b5 b6 b7 O
    have m3:G.cell? ⟨wr.heap.size,3,none⟩=some (.pointer iv):=(za P.out).trans rfl
    have Q:wr.heap.size<G.heap.size:=zc P.out
    have m0:=(xi P.out).1
    go_wp2_with fail
    refine(Z.out G _ _ A1.out J.out).mono ?_
    intro e H d
    cases r1 with
    |some er =>
     have r:=zh (CkP.up d J.out)
     have m:Hid ((List.range n).findSome? q=some er):=zP C z.out (by rw[A.out];rfl)
     obtain⟨s,l⟩:=d
     obtain⟨K,t,rfl,x,y⟩:=l.out
     clear s l t x y
     go_wp2_with fail
     refine⟨rfl,?_⟩
     rw[m.out]
     exact r.out
    |none =>
     obtain⟨f,rfl⟩:=d
     have D:Hid (Below w.heap.size w H):=J.out.trans (f.mono J.out.size)
     have L:=zh ((f.block _ Q).trans P.out)
     clear f m3 Q m0
     have m4:H.cell? ⟨wr.heap.size,4,none⟩=some (.pointer vv):=(za L.out).trans rfl
     have R:wr.heap.size<H.heap.size:=zc L.out
     go_wp2_with fail
     refine(Z.out H _ _ A2.out D.out).mono ?_
     intro e x2 d
     cases r2 with
     |some er =>
      have r:=zh (CkP.up d D.out)
      have m:Hid ((List.range n).findSome? q=some er):=zP C z.out (by rw[A.out];rfl)
      obtain⟨s,l⟩:=d
      obtain⟨K,t,rfl,x,y⟩:=l.out
      clear s l t x y
      go_wp2_with fail
      refine⟨rfl,?_⟩
      rw[m.out]
      exact r.out
     |none =>
      obtain⟨f,rfl⟩:=d
      have E:Hid (Below w.heap.size w x2):=D.out.trans (f.mono D.out.size)
      have M:=zh ((f.block _ R).trans L.out)
      clear f m4 R
      have m5:x2.cell? ⟨wr.heap.size,5,none⟩=some (.slice ta tn tc):=(za M.out).trans rfl
      have S:wr.heap.size<x2.heap.size:=zc M.out
      go_wp2_with fail
      refine(Y.out x2 _ _ A3.out E.out).mono ?_
      intro e x3 d
      cases r3 with
      |some er =>
       have r:=zh (CkP.up d E.out)
       have m:Hid ((List.range n).findSome? q=some er):=zP C z.out (by rw[A.out];rfl)
       obtain⟨s,l⟩:=d
       obtain⟨K,t,rfl,x,y⟩:=l.out
       clear s l t x y
       go_wp2_with fail
       refine⟨rfl,?_⟩
       rw[m.out]
       exact r.out
      |none =>
       obtain⟨f,rfl⟩:=d
       have F:Hid (Below w.heap.size w x3):=E.out.trans (f.mono E.out.size)
       have N:=zh ((f.block _ S).trans M.out)
       clear f m5 S
       have m6:x3.cell? ⟨wr.heap.size,6,none⟩=some (.slice ea en ec):=(za N.out).trans rfl
       have T:wr.heap.size<x3.heap.size:=zc N.out
       go_wp2_with fail
       refine(Y.out x3 _ _ A4.out F.out).mono ?_
       intro e x4 d
       cases r4 with
       |some er =>
        have r:=zh (CkP.up d F.out)
        have m:Hid ((List.range n).findSome? q=some er):=zP C z.out (by rw[A.out];rfl)
        obtain⟨s,l⟩:=d
        obtain⟨K,t,rfl,x,y⟩:=l.out
        clear s l t x y
        go_wp2_with fail
        refine⟨rfl,?_⟩
        rw[m.out]
        exact r.out
       |none =>
        obtain⟨f,rfl⟩:=d
        have a6:Hid (Below w.heap.size w x4):=F.out.trans (f.mono F.out.size)
        have b8:=zh ((f.block _ T).trans N.out)
        clear f m6 T
        have a7:Hid (∀j,j<i+1->q j=none):=fun j hj=>by
         rcases Nat.lt_or_ge j i with q|q
         ·exact z.out j q
         ·have:j=i:=by omega
          subst this
          rw[A.out]
          rfl
        go_wp2_with fail
        go_roundg (n-(i+1))
        case measure=>omega
        case rel=>exact⟨i+1,by omega,rfl,by go_num,a6,a7⟩
  ·have c7:¬(i:Int)<(n:Int):=by omega
   have m:Hid ((List.range n).findSome? q=none):=yz (fun j hj=>z.out j (by omega))
   go_wp2_with fail
   refine ze rfl rfl ⟨HB.out,?_⟩
   rw[m.out]
end Go.Proofs.YtbkndnmglhghlaaGreatDoor
