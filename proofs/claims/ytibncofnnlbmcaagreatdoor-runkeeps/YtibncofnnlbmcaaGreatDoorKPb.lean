import Derived.Test.YtibncofnnlbmcaaGreatDoorKPa
set_option maxRecDepth 100000
set_option maxHeartbeats 4000000
namespace Tp
def wt (r:List Tok):Nat:=(r.map fun t=>t.text.length).sum
structure Tk (t:Tok):Prop where
 k0:t.kind=0->t.text=[]
 k1:t.kind=1->∃c l,t.text=c :: l/\letter c=true/\∀d,d∈t.text->ld d=true
 k2:t.kind=2->t.text≠[]/\∀d,d∈t.text->digit d=true
 k3:t.kind=3->t.text∈marks
 kk:t.kind<=3
def Tks (r:List Tok):Prop:=∀t,t∈r->Tk t
theorem Tks.gd {r:List Tok}(h:Tks r):Gd r:=fun t a=>(h t a).k0
theorem Tks.suf {r a:List Tok}(h:Tks r)(k:a <:+ r):Tks a:=fun t b=>h t (k.subset b)
theorem wt_stp (r:List Tok):wt (stp r)+(if (hd r).kind=0 then 0 else (tx r).length)=wt r:=by
 unfold stp
 split
 ·rfl
 ·cases r with
  |nil=>rfl
  |cons t l=>simp[wt,tx,hd];omega
theorem yk {r:List Tok}(h:Tks r):wt (stp r)+(tx r).length=wt r:=by
 have:=wt_stp r
 split at this
 ·rename_i a
  have:tx r=[]:=by
   cases r with
   |nil=>rfl
   |cons t l=>exact(h t (by simp)).k0 a
  rw[this];simpa using ‹_›
 ·exact this
def okn (n:Bs):Prop:=(∃c l,n=c :: l/\letter c=true/\∀d,d∈n->ld d=true)/\n ∉ kept/\n.length<=10
theorem yU {r a:List Tok}{n:Bs}(f:Tks r)(h:name r=.ok (n,a)):okn n/\a=stp r/\1+wt a<=wt r:=by
 obtain⟨b,i,j,rfl,rfl⟩:=name_ok' h
 have g:∃c l,tx r=c :: l/\letter c=true/\∀d,d∈tx r->ld d=true:=by
  cases r with
  |nil=>exact absurd b (by decide)
  |cons t l=>exact(f t (by simp)).k1 b
 refine⟨⟨g,i,j⟩,rfl,?_⟩
 obtain⟨c,l,e,_⟩:=g
 have:=yk f
 rw[e]at this
 simp at this;omega
def lowN (k:Nat) (l:List X):Nat:=if isLow k l then 1 else 0
def DX:List X->Nat
 |[]=>0
 | ⟨code,_,_,_,_,op,le,ri,ar⟩ :: xs =>
  max (if code=3 then 1+DX le else if code=4 then 1+(lowN 5 le+DX le) else if code=5 then max (lowN (lvl op) le+DX le) (lowN (lvl op+1) ri+DX ri) else if code=6 then (if ar.isEmpty then 0 else 1+DX ar) else 0) (DX xs)
def rN (m:Bs):Nat:=if m=[] then 1 else 3
def NX:List X->Nat
 |[]=>0
 | ⟨code,_,_,m,_,op,le,ri,ar⟩ :: xs =>
  (if code=3 then rN m+2+NX le else if code=4 then 1+(2*lowN 5 le+NX le) else if code=5 then 1+(2*lowN (lvl op) le+NX le)+(2*lowN (lvl op+1) ri+NX ri) else if code=6 then rN m+2+(ar.length-1)+NX ar else if code=2 then rN m else 1)+NX xs
def okr (m n:Bs):Prop:=(m=[]\/okn m)/\okn n
def WX:List X->Prop
 |[]=>True
 | ⟨code,_,n,m,nm,op,le,ri,ar⟩ :: xs =>
  (code=1/\n<=top/\m=[]/\nm=[]/\op=[]/\le=[]/\ri=[]/\ar=[] \/
  code=2/\n=0/\okr m nm/\op=[]/\le=[]/\ri=[]/\ar=[] \/
  code=3/\n=0/\okr m nm/\op=[]/\WX le/\le.length=1/\ri=[]/\ar=[] \/
  code=4/\n=0/\m=[]/\nm=[]/\(op=mMinus\/op=wNot)/\WX le/\le.length=1/\ri=[]/\ar=[] \/
  code=5/\n=0/\m=[]/\nm=[]/\lvl op<5/\WX le/\le.length=1/\WX ri/\ri.length=1/\ar=[] \/
  code=6/\n=0/\okr m nm/\op=[]/\le=[]/\ri=[]/\WX ar)/\WX xs
theorem len1 {α:Type}{l:List α}(h:l.length=1):∃x,l=[x]:=by
 match l,h with
 |[x],_=>exact⟨x,rfl⟩
theorem refT_okr {r f:List Tok}{m n:Bs}(d:Tks r)(h:refT r=.ok ((m,n),f)):okr m n/\rN m+wt f<=wt r:=by
 unfold refT at h
 obtain⟨⟨p,s⟩,k,a⟩:=zk h
 obtain⟨c,rfl,i⟩:=yU d k
 simp only at a
 have b:=d.suf (zy r)
 split at a
 ·rename_i g
  obtain⟨⟨q,t⟩,l,o⟩:=zk a
  have e:=yk b
  rw[g]at e
  simp[mDot]at e
  obtain⟨j,rfl,b2⟩:=yU (b.suf (zy _)) l
  cases o
  refine⟨⟨Or.inr c,j⟩,?_⟩
  simp only
  unfold rN
  split<;>omega
 ·cases a
  exact⟨⟨Or.inl rfl,c⟩,by simpa[rN] using i⟩
theorem vS {j k:Nat}(h:j<=k)(l:List X):lowN j l<=lowN k l:=by
 unfold lowN
 match l with
 |[]=>simp[isLow]
 |x :: _ =>
  simp only[isLow]
  by_cases a:x.code=5
  ·by_cases b:lvl x.op<j
   ·have:lvl x.op<k:=by omega
    simp[a,b,this]
   ·simp[a,b]
  ·simp[a]
theorem lowN_one (k:Nat)(l:List X):lowN k l<=1:=by unfold lowN;split<;>omega
theorem lvl_len {s:Bs}(h:lvl s<5):1<=s.length:=by
 cases s with
 |nil=>exact absurd h (by decide)
 |cons c l=>simp
structure Rx (k o:Nat) (x:List X) (r r':List Tok):Prop where
 one:k≠7->x.length=1
 some:1<=x.length
 wx:WX x
 dx:k≠7->o+lowN (if k<10 then k else k-10) x+DX x<=10
 d7:k=7->o+1+DX x<=10
 nx:k≠7->k<10->NX x+2*lowN k x+wt r'<=wt r
 n7:k=7->NX x+(x.length-1)+wt r'<=wt r
theorem WX_app:∀(l m:List X),WX l->WX m->WX (l++m):=by
 intro l
 induction l with
 |nil=>intro m _ h;exact h
 |cons x xs ih =>
  intro m h k
  obtain⟨code,pos,n,md,nm,c,b,ri,a⟩:=x
  rw[List.cons_append,WX]
  rw[WX]at h
  exact⟨h.1,ih m h.2 k⟩
theorem DX_app:∀(l m:List X),DX (l++m)=max (DX l) (DX m):=by
 intro l
 induction l with
 |nil=>intro m;simp[DX]
 |cons x xs ih =>
  intro m
  obtain⟨code,pos,n,md,nm,c,b,ri,a⟩:=x
  rw[List.cons_append,DX,DX,ih]
  omega
theorem NX_app:∀(l m:List X),NX (l++m)=NX l+NX m:=by
 intro l
 induction l with
 |nil=>intro m;simp[NX]
 |cons x xs ih =>
  intro m
  obtain⟨code,pos,n,md,nm,c,b,ri,a⟩:=x
  rw[List.cons_append,NX,NX,ih]
  omega
theorem zR {k:Nat}{x:X}{a:List X}(h:x.code≠5):lowN k (x :: a)=0:=by
 simp[lowN,isLow,h]
theorem DX1 (x:X):DX [x]=(if x.code=3 then 1+DX x.left else if x.code=4 then 1+(lowN 5 x.left+DX x.left) else if x.code=5 then max (lowN (lvl x.op) x.left+DX x.left) (lowN (lvl x.op+1) x.right+DX x.right) else if x.code=6 then (if x.args.isEmpty then 0 else 1+DX x.args) else 0):=by
 obtain⟨code,pos,n,md,nm,c,b,ri,a⟩:=x
 rw[DX,DX];simp
theorem NX1 (x:X):NX [x]=(if x.code=3 then rN x.mod+2+NX x.left else if x.code=4 then 1+(2*lowN 5 x.left+NX x.left) else if x.code=5 then 1+(2*lowN (lvl x.op) x.left+NX x.left)+(2*lowN (lvl x.op+1) x.right+NX x.right) else if x.code=6 then rN x.mod+2+(x.args.length-1)+NX x.args else if x.code=2 then rN x.mod else 1):=by
 obtain⟨code,pos,n,md,nm,c,b,ri,a⟩:=x
 rw[NX,NX];simp
theorem kV:WX []:=by rw[WX];trivial
theorem xF {s:Bs}{r a:List Tok}(c:Tks r)(h:want s r=.ok a):a=stp r/\wt a+s.length=wt r:=by
 obtain⟨b,rfl⟩:=uB h
 have:=yk c
 rw[b]at this
 exact⟨rfl,this⟩
theorem ex_rx (f:Nat):∀k o a g r x H,Tks r->(k<=7\/10<=k/\k<15)->(k=6->o<=10)->(10<=k->g.length=1/\WX g/\o+lowN (k-10) g+DX g<=10)->ex f k o a g r=.ok (x,H) ->
  Rx k o x r H/\(10<=k->NX x+2*lowN (k-10) x+wt H<=NX g+2*lowN (k-10) g+wt r):=by
 induction f with
 |zero=>intro k o a g r x H _ _ _ _ h;rw[ex]at h;cases h
 |succ f ih =>
  intro k o a g r x H p hk Z O h
  have z:=p.suf (zy r)
  have V:=yk p
  by_cases F:k=6
  ·subst F
   have T:=Z rfl
   rw[ex6]at h
   obtain⟨⟨⟨m,n⟩,N⟩,d,b⟩:=zk h
   obtain⟨K,kw⟩:=refT_okr p d
   have R:=p.suf (uL d).1
   have A:=R.suf (zy N)
   have w2:=yk R
   simp only[behind]at b
   split at b
   ·rename_i M
    rw[M]at w2
    simp[mLb]at w2
    obtain⟨⟨y,r3⟩,v,B⟩:=zk b
    obtain⟨q,_⟩:=ih 0 (o+1) 0 [] _ _ _ A (by omega) (by omega) (by omega) v
    obtain⟨r4,D,F⟩:=zk B
    have I:=(xF (A.suf (yI f _ _ _ _ _ _ _ A.gd v).1) D).2
    simp[mRb]at I
    cases F
    have i:=q.one (by omega)
    have j:=q.dx (by omega)
    have C:=q.nx (by omega) (by omega)
    refine⟨⟨fun _=>rfl,by simp,?_,fun _=>?_,fun e=>by omega,fun _ _=>?_,fun e=>by omega⟩,fun e=>by omega⟩
    ·rw[WX];exact⟨Or.inr (Or.inr (Or.inl ⟨rfl,rfl,K,rfl,q.wx,i,rfl,rfl⟩)),kV⟩
    ·rw[zR (by simp),DX1];simp;omega
    ·rw[zR (by simp),NX1];simp;omega
   ·split at b
    ·rename_i M
     rw[M]at w2
     simp[mLp]at w2
     split at b
     ·rename_i a0
      have Y:=yk A
      rw[a0]at Y
      simp[mRp]at Y
      cases b
      refine⟨⟨fun _=>rfl,by simp,?_,fun _=>?_,fun e=>by omega,fun _ _=>?_,fun e=>by omega⟩,fun e=>by omega⟩
      ·rw[WX];exact⟨Or.inr (Or.inr (Or.inr (Or.inr (Or.inr ⟨rfl,rfl,K,rfl,rfl,rfl,kV⟩)))),kV⟩
      ·rw[zR (by simp),DX1];simp;omega
      ·rw[zR (by simp),NX1];simp[NX];omega
     ·obtain⟨⟨y,r3⟩,v,B⟩:=zk b
      obtain⟨q,_⟩:=ih 7 o 0 [] _ _ _ A (by omega) (by omega) (by omega) v
      obtain⟨r4,D,F⟩:=zk B
      have I:=(xF (A.suf (yI f _ _ _ _ _ _ _ A.gd v).1) D).2
      simp[mRp]at I
      cases F
      have i:=q.some
      have j:=q.d7 rfl
      have C:=q.n7 rfl
      have qe:y.isEmpty=false:=by cases y<;>simp at i ⊢
      refine⟨⟨fun _=>rfl,by simp,?_,fun _=>?_,fun e=>by omega,fun _ _=>?_,fun e=>by omega⟩,fun e=>by omega⟩
      ·rw[WX];exact⟨Or.inr (Or.inr (Or.inr (Or.inr (Or.inr ⟨rfl,rfl,K,rfl,rfl,rfl,q.wx⟩)))),kV⟩
      ·rw[zR (by simp),DX1];simp[qe];omega
      ·rw[zR (by simp),NX1];simp;omega
    ·cases b
     refine⟨⟨fun _=>rfl,by simp,?_,fun _=>?_,fun e=>by omega,fun _ _=>?_,fun e=>by omega⟩,fun e=>by omega⟩
     ·rw[WX];exact⟨Or.inr (Or.inl ⟨rfl,rfl,K,rfl,rfl,rfl,rfl⟩),kV⟩
     ·rw[zR (by simp),DX1];simp;omega
     ·rw[zR (by simp),NX1];simp;omega
  ·rw[ex]at h
   split at h
   ·rename_i D
    obtain⟨⟨y,E⟩,d,b⟩:=zk h
    obtain⟨q,_⟩:=ih (k+1) o 0 [] _ _ _ p (by omega) (by intro e;omega) (by omega) d
    have i:=q.one (by omega)
    have j:=q.dx (by omega)
    have C:=q.nx (by omega) (by omega)
    rw[if_pos (by omega)]at j
    have w:=vS (show k<=k+1 by omega) y
    have L:10+k-10=k:=by omega
    obtain⟨u,u2⟩:=ih (10+k) o (at' r) y _ _ _ (p.suf (yI f _ _ _ _ _ _ _ p.gd d).1) (by omega) (by omega) (fun _=>⟨i,q.wx,by rw[L];omega⟩) b
    have u3:=u2 (by omega)
    have u4:=u.dx (by omega)
    rw[if_neg (by omega),L]at u4
    rw[L]at u3
    exact⟨⟨fun _=>u.one (by omega),u.some,u.wx,fun _=>by rw[if_pos (by omega)];exact u4,fun e=>by omega,fun _ _=>by omega,fun e=>by omega⟩,fun e=>by omega⟩
   ·split at h
    ·rename_i a1 D
     subst D
     split at h
     ·cases h
     ·rename_i T
      split at h
      ·obtain⟨⟨n,E⟩,d,b⟩:=zk h
       obtain⟨U,n2,n3,rfl⟩:=jb d
       have G:1<=(tx r).length:=by
        cases r with
        |nil=>exact absurd U (by decide)
        |cons t l =>
         have:=((p t (by simp)).k2 U).1
         show 1<=t.text.length
         cases e:t.text with
         |nil=>exact absurd e this
         |cons c l=>simp
       cases b
       refine⟨⟨fun _=>rfl,by simp,?_,fun _=>?_,fun e=>by omega,fun _ _=>?_,fun e=>by omega⟩,fun e=>by omega⟩
       ·rw[WX];exact⟨Or.inl ⟨rfl,n3,rfl,rfl,rfl,rfl,rfl,rfl⟩,kV⟩
       ·rw[zR (by simp),DX1];simp;omega
       ·rw[zR (by simp),NX1];simp;omega
      ·split at h
       ·rename_i w
        obtain⟨⟨y,E⟩,d,b⟩:=zk h
        obtain⟨q,_⟩:=ih 5 (o+1) 0 [] _ _ _ z (by omega) (by omega) (by omega) d
        have i:=q.one (by omega)
        have j:=q.dx (by omega)
        have C:=q.nx (by omega) (by omega)
        rw[if_pos (by omega)]at j
        have G:1<=(tx r).length:=by rcases w with w|w<;>rw[w]<;>decide
        cases b
        refine⟨⟨fun _=>rfl,by simp,?_,fun _=>?_,fun e=>by omega,fun _ _=>?_,fun e=>by omega⟩,fun e=>by omega⟩
        ·rw[WX];exact⟨Or.inr (Or.inr (Or.inr (Or.inl ⟨rfl,rfl,rfl,rfl,w,q.wx,i,rfl,rfl⟩))),kV⟩
        ·rw[zR (by simp),DX1];simp;omega
        ·rw[zR (by simp),NX1];simp;omega
       ·split at h
        ·rename_i w
         rw[w]at V
         simp[mLp]at V
         obtain⟨⟨y,E⟩,d,b⟩:=zk h
         obtain⟨q,_⟩:=ih 0 (o+1) 0 [] _ _ _ z (by omega) (by omega) (by omega) d
         have i:=q.one (by omega)
         have j:=q.dx (by omega)
         have C:=q.nx (by omega) (by omega)
         rw[if_pos (by omega)]at j
         obtain⟨N,v,B⟩:=zk b
         have I:=(xF (z.suf (yI f _ _ _ _ _ _ _ z.gd d).1) v).2
         simp[mRp]at I
         cases B
         have:=lowN_one 5 x
         exact⟨⟨fun _=>i,q.some,q.wx,fun _=>by rw[if_pos (by omega)];omega,fun e=>by omega,fun _ _=>by omega,fun e=>by omega⟩,fun e=>by omega⟩
        ·obtain⟨q,_⟩:=ih 6 o 0 [] _ _ _ p (by omega) (by omega) (by omega) h
         have j:=q.dx (by omega)
         have C:=q.nx (by omega) (by omega)
         rw[if_pos (by omega)]at j
         have:=vS (show 5<=6 by omega) x
         exact⟨⟨fun _=>q.one (by omega),q.some,q.wx,fun _=>by rw[if_pos (by omega)];omega,fun e=>by omega,fun _ _=>by omega,fun e=>by omega⟩,fun e=>by omega⟩
    ·split at h
     ·rename_i S
      subst S
      obtain⟨⟨y,E⟩,d,b⟩:=zk h
      obtain⟨q,_⟩:=ih 0 (o+1) 0 [] _ _ _ p (by omega) (by omega) (by omega) d
      have i:=q.one (by omega)
      have j:=q.dx (by omega)
      have C:=q.nx (by omega) (by omega)
      rw[if_pos (by omega)]at j
      have Q:=p.suf (yI f _ _ _ _ _ _ _ p.gd d).1
      have W:=yk Q
      simp only at b
      split at b
      ·rename_i hc
       rw[hc]at W
       simp[mComma]at W
       obtain⟨⟨l,N⟩,v,B⟩:=zk b
       obtain⟨u,_⟩:=ih 7 o 0 [] _ _ _ (Q.suf (zy E)) (by omega) (by omega) (by omega) v
       have u1:=u.some
       have u4:=u.d7 rfl
       have u5:=u.n7 rfl
       cases B
       refine⟨⟨fun e=>absurd rfl e,by simp;omega,WX_app _ _ q.wx u.wx,fun e=>absurd rfl e,fun _=>by simp only[DX_app];omega,fun e=>absurd rfl e,fun _=>?_⟩,fun e=>by omega⟩
       rw[NX_app,List.length_append,i]
       simp only
       omega
      ·cases b
       exact⟨⟨fun e=>absurd rfl e,q.some,q.wx,fun e=>absurd rfl e,fun _=>by omega,fun e=>absurd rfl e,fun _=>by rw[i];omega⟩,fun e=>by omega⟩
     ·split at h
      ·rename_i S G
       have J:10<=k:=by omega
       obtain⟨c1,c2,c3⟩:=O J
       have T:=lvl_len (s:=tx r) (by omega)
       obtain⟨⟨y,E⟩,d,b⟩:=zk h
       obtain⟨q,_⟩:=ih (k-10+1) o 0 [] _ _ _ z (by omega) (by omega) (by omega) d
       have i:=q.one (by omega)
       have j:=q.dx (by omega)
       have C:=q.nx (by omega) (by omega)
       rw[if_pos (by omega)]at j
       have P:lowN (k-10) [(⟨5,a,0,[],[],tx r,g,y,[]⟩:X)]=0:=by simp[lowN,isLow,G]
       have hD:DX [(⟨5,a,0,[],[],tx r,g,y,[]⟩:X)]=max (lowN (k-10) g+DX g) (lowN (k-10+1) y+DX y):=by rw[DX1];simp[G]
       have hN:NX [(⟨5,a,0,[],[],tx r,g,y,[]⟩:X)]=1+(2*lowN (k-10) g+NX g)+(2*lowN (k-10+1) y+NX y):=by rw[NX1];simp[G]
       obtain⟨u,u2⟩:=ih k o a [⟨5,a,0,[],[],tx r,g,y,[]⟩] _ _ _ (z.suf (yI f _ _ _ _ _ _ _ z.gd d).1) hk (by omega) (fun _=>⟨rfl,by
        rw[WX];exact⟨Or.inr (Or.inr (Or.inr (Or.inr (Or.inl ⟨rfl,rfl,rfl,rfl,by omega,c2,c1,q.wx,i,rfl⟩)))),kV⟩,by rw[P,hD];omega⟩) b
       have u3:=u2 J
       rw[P,hN]at u3
       refine⟨⟨u.one,u.some,u.wx,u.dx,u.d7,fun e e2=>by omega,fun e=>by omega⟩,fun _=>by omega⟩
      ·cases h
       have J:10<=k:=by omega
       obtain⟨c1,c2,c3⟩:=O J
       exact⟨⟨fun _=>c1,by omega,c2,fun _=>by rw[if_neg (by omega)];exact c3,fun e=>by omega,fun _ e=>by omega,fun e=>by omega⟩,fun _=>by omega⟩
theorem digit_of (d:Nat)(h:d<10):digit (UInt8.ofNat (48+d))=true/\(UInt8.ofNat (48+d)).toNat-48=d:=by
 have:∀d:Fin 10,digit (UInt8.ofNat (48+d.val))=true/\(UInt8.ofNat (48+d.val)).toNat-48=d.val:=by decide
 exact this ⟨d,h⟩
theorem qq:∀n:Nat,(∀c,c∈dec n->digit c=true)/\dec n≠[]/\val (dec n)=n:=by
 intro n
 induction n using Nat.strongRecOn with
 | _ n ih =>
  rw[dec]
  split
  ·obtain⟨e,g⟩:=digit_of n ‹_›
   refine⟨by intro c f;rw[List.mem_singleton]at f;subst f;exact e,by simp,?_⟩
   simp only[val,List.foldl_cons,List.foldl_nil]
   omega
  ·obtain⟨a,b,c⟩:=ih (n / 10) (by omega)
   obtain⟨e,g⟩:=digit_of (n % 10) (by omega)
   refine⟨by intro d hd;simp only[List.mem_append,List.mem_singleton]at hd;rcases hd with hd|rfl;exact a d hd;exact e,by simp,?_⟩
   unfold val at c ⊢
   rw[List.foldl_append,c]
   simp only[List.foldl_cons,List.foldl_nil]
   omega
def ev (v:List X):Prop:=WX v/\v.length=1/\DX v<=10
def WS:List S->Prop
 |[]=>True
 | ⟨code,_,nm,ix,v,th,el⟩ :: ss =>
  (code=1/\okn nm/\(ix=[]\/WX ix/\ix.length=1/\1+DX ix<=10)/\ev v/\th=[]/\el=[] \/
  code=2/\nm=[]/\ix=[]/\ev v/\WS th/\WS el \/
  code=3/\nm=[]/\ix=[]/\ev v/\WS th/\el=[] \/
  (code=4\/code=5)/\nm=[]/\ix=[]/\ev v/\th=[]/\el=[] \/
  code=6/\nm=[]/\ix=[]/\ev v/\codeOf v=6/\th=[]/\el=[])/\WS ss
def DS:List S->Nat
 |[]=>0
 | ⟨code,_,_,_,_,th,el⟩ :: ss=>max (if code=2\/code=3 then 1+max (DS th) (DS el) else 0) (DS ss)
def NS:List S->Nat
 |[]=>0
 | ⟨code,_,_,ix,v,th,el⟩ :: ss =>
  (if code=1 then 3+(if ix.isEmpty then 0 else 2+NX ix)+NX v else if code=2 then 4+NX v+NS th+(if el.isEmpty then 0 else 1+NS el) else if code=3 then 4+NX v+NS th else if code=6 then 1+NX v else 2+NX v)+NS ss
theorem ku:WS []:=by rw[WS];trivial
theorem WS_app:∀(l m:List S),WS l->WS m->WS (l++m):=by
 intro l
 induction l with
 |nil=>intro m _ h;exact h
 |cons x xs ih=>intro m h k;obtain⟨⟩:=x;rw[List.cons_append,WS];rw[WS]at h;exact⟨h.1,ih m h.2 k⟩
theorem DS_app:∀(l m:List S),DS (l++m)=max (DS l) (DS m):=by
 intro l
 induction l with
 |nil=>intro m;simp[DS]
 |cons x xs ih=>intro m;obtain⟨⟩:=x;rw[List.cons_append,DS,DS,ih];omega
theorem NS_app:∀(l m:List S),NS (l++m)=NS l+NS m:=by
 intro l
 induction l with
 |nil=>intro m;simp[NS]
 |cons x xs ih=>intro m;obtain⟨⟩:=x;rw[List.cons_append,NS,NS,ih];omega
theorem DS1 (s:S):DS [s]=if s.code=2\/s.code=3 then 1+max (DS s.thn) (DS s.els) else 0:=by
 obtain⟨⟩:=s;rw[DS,DS];simp
theorem NS1 (s:S):NS [s]=if s.code=1 then 3+(if s.index.isEmpty then 0 else 2+NX s.index)+NX s.value else if s.code=2 then 4+NX s.value+NS s.thn+(if s.els.isEmpty then 0 else 1+NS s.els) else if s.code=3 then 4+NX s.value+NS s.thn else if s.code=6 then 1+NX s.value else 2+NX s.value:=by
 obtain⟨⟩:=s;rw[NS,NS];simp
structure Ry (k b:Nat) (l:List S) (r r':List Tok):Prop where
 ws:WS l
 one:2<=k->l.length=1
 ds:b+DS l<=10
 ns:k<=2->NS l+wt r'<=wt r
 n3:k=3->NS l+wt r'+(tx r).length<=wt r+3
theorem ex0_ev {f:Nat}{r a:List Tok}{x:List X}(b:Tks r)(h:ex f 0 0 0 [] r=.ok (x,a)):ev x/\NX x+wt a<=wt r/\a <:+ r:=by
 obtain⟨q,_⟩:=ex_rx f 0 0 0 [] r x a b (by omega) (by omega) (by omega) h
 have c:=q.dx (by omega)
 have d:=q.nx (by omega) (by omega)
 exact⟨⟨q.wx,q.one (by omega),by omega⟩,by omega,(yI f _ _ _ _ _ _ _ b.gd h).1⟩
theorem zG {s:Bs}{r a:List Tok}(b:Tks r)(h:want s r=.ok a):wt a+s.length=wt r/\Tks a:=by
 obtain⟨rfl,c⟩:=xF b h
 exact⟨c,b.suf (zy r)⟩
theorem sx_ry (f:Nat):∀k b r l J,Tks r->k<=3->(k≠0->b<=10)->(k=3->tx r≠[])->sx f k b r=.ok (l,J)->Ry k b l r J:=by
 induction f with
 |zero=>intro k b r l J _ _ _ _ h;rw[sx]at h;cases h
 |succ f ih =>
  intro k b r l J i hk hb h3 h
  have H:=i.suf (zy r)
  have w0:=yk i
  rw[sx]at h
  split at h
  ·rename_i V
   split at h
   ·cases h
   ·have q:=ih 1 b r l J i (by omega) (by omega) (by omega) h
    exact⟨q.ws,fun e=>by omega,q.ds,fun _=>q.ns (by omega),fun e=>by omega⟩
  ·rename_i V
   have a2:=hb V
   split at h
   ·rename_i e1
    split at h
    ·cases h
     exact⟨ku,fun e=>by omega,by simp[DS];omega,fun _=>by simp[NS],fun e=>by omega⟩
    ·obtain⟨⟨s,B⟩,a,c⟩:=zk h
     have q:=ih 2 b r s B i (by omega) (by omega) (by omega) a
     have I:=i.suf (xH f _ _ _ _ _ i.gd a).1
     obtain⟨⟨l2,C⟩,a1,h4⟩:=zk c
     have u:=ih 1 b B l2 C I (by omega) (by omega) (by omega) a1
     have D:=q.ns (by omega)
     have u1:=u.ns (by omega)
     have Y:=q.ds
     have u2:=u.ds
     cases h4
     exact⟨WS_app _ _ q.ws u.ws,fun e=>by omega,by simp only[DS_app];omega,fun _=>by simp only[NS_app];omega,fun e=>by omega⟩
   ·rename_i e1
    split at h
    ·rename_i W
     subst W
     split at h
     ·rename_i j
      have hl:1<=(tx r).length:=by rcases j with j|j<;>rw[j]<;>decide
      obtain⟨⟨x,B⟩,a,c⟩:=zk h
      obtain⟨x1,x2,x3⟩:=ex0_ev H a
      obtain⟨C,p,t⟩:=zk c
      obtain⟨w2,_⟩:=zG (H.suf x3) p
      simp[mSemi]at w2
      cases t
      have v:(if tx r=wReturn then 4 else 5)=4\/(if tx r=wReturn then 4 else 5)=5:=by split<;>simp
      refine⟨?_,fun _=>rfl,?_,fun _=>?_,fun e=>by omega⟩
      ·rw[WS];exact⟨Or.inr (Or.inr (Or.inr (Or.inl ⟨v,rfl,rfl,x1,rfl,rfl⟩))),ku⟩
      ·rw[DS1];simp only;rw[if_neg (by rcases v with e|e<;>rw[e]<;>decide)];omega
      ·rw[NS1];simp only;rw[if_neg (by rcases v with e|e<;>rw[e]<;>decide),if_neg (by rcases v with e|e<;>rw[e]<;>decide),if_neg (by rcases v with e|e<;>rw[e]<;>decide),if_neg (by rcases v with e|e<;>rw[e]<;>decide)];omega
     ·split at h
      ·rename_i j
       rw[j]at w0
       simp[wWhile]at w0
       obtain⟨⟨x,B⟩,a,c⟩:=zk h
       obtain⟨x1,x2,x3⟩:=ex0_ev H a
       obtain⟨C,p,t⟩:=zk c
       obtain⟨w2,d⟩:=zG (H.suf x3) p
       simp[wDo]at w2
       obtain⟨⟨R,E⟩,A,g⟩:=zk t
       have q:=ih 0 (b+1) C R E d (by omega) (by omega) (by omega) A
       have D:=q.ns (by omega)
       have Y:=q.ds
       obtain⟨K,G,F⟩:=zk g
       obtain⟨T,T4⟩:=zG (d.suf (xH f _ _ _ _ _ d.gd A).1) G
       simp[wEnd]at T
       obtain⟨r5,a0,w⟩:=zk F
       obtain⟨w5,_⟩:=zG T4 a0
       simp[mSemi]at w5
       cases w
       refine⟨?_,fun _=>rfl,?_,fun _=>?_,fun e=>by omega⟩
       ·rw[WS];exact⟨Or.inr (Or.inr (Or.inl ⟨rfl,rfl,rfl,x1,q.ws,rfl⟩)),ku⟩
       ·rw[DS1];simp[DS];omega
       ·rw[NS1];simp;omega
      ·split at h
       ·rename_i j
        obtain⟨⟨s,B⟩,a,c⟩:=zk h
        have q:=ih 3 b r s B i (by omega) (by omega) (by intro _;rw[j];decide) a
        have D:=q.n3 rfl
        rw[j]at D
        simp[wIf]at D
        have I:=i.suf (xH f _ _ _ _ _ i.gd a).1
        obtain⟨C,p,t⟩:=zk c
        obtain⟨w2,d⟩:=zG I p
        simp[wEnd]at w2
        obtain⟨E,A,g⟩:=zk t
        obtain⟨M,_⟩:=zG d A
        simp[mSemi]at M
        cases g
        exact⟨q.ws,fun _=>q.one (by omega),q.ds,fun _=>by omega,fun e=>by omega⟩
       ·obtain⟨⟨x,B⟩,a,c⟩:=zk h
        obtain⟨q,_⟩:=ex_rx f 6 0 0 [] r x B i (by omega) (by omega) (by omega) a
        have I:=i.suf (yI f _ _ _ _ _ _ _ i.gd a).1
        have D:=q.one (by omega)
        have Z:=q.dx (by omega)
        have S:=q.nx (by omega) (by omega)
        simp only at c
        split at c
        ·rename_i v
         obtain⟨C,p,t⟩:=zk c
         obtain⟨w2,_⟩:=zG I p
         simp[mSemi]at w2
         cases t
         refine⟨?_,fun _=>rfl,?_,fun _=>?_,fun e=>by omega⟩
         ·rw[WS];exact⟨Or.inr (Or.inr (Or.inr (Or.inr ⟨rfl,rfl,rfl,⟨q.wx,D,by omega⟩,v,rfl,rfl⟩))),ku⟩
         ·rw[DS1];simp;omega
         ·rw[NS1];simp;omega
        ·rename_i v
         split at c
         ·rename_i j
          obtain⟨C,p,t⟩:=zk c
          obtain⟨w2,d⟩:=zG I p
          simp[mSet]at w2
          obtain⟨⟨y,E⟩,A,g⟩:=zk t
          obtain⟨y1,y2,y3⟩:=ex0_ev d A
          obtain⟨K,G,F⟩:=zk g
          obtain⟨T,_⟩:=zG (d.suf y3) G
          simp[mSemi]at T
          cases F
          obtain⟨z,rfl⟩:=len1 D
          have U:=q.wx
          obtain⟨code,pos,n,m,nm,op,le,ri,ar⟩:=z
          rw[DX1]at Z
          rw[NX1]at S
          rw[WX]at U
          simp only[codeOf,modOf]at v j
          subst j
          have O:code≠1/\code≠4/\code≠5:=by
           cases f with
           |zero=>rw[ex]at a;cases a
           |succ f =>
            rw[ex6]at a
            obtain⟨⟨⟨m',n'⟩,r5⟩,_,w⟩:=zk a
            simp only[behind]at w
            split at w
            ·obtain⟨_,_,o⟩:=zk w
             obtain⟨_,_,N⟩:=zk o
             cases N;simp
            ·split at w
             ·split at w
              ·cases w;simp
              ·obtain⟨_,_,o⟩:=zk w
               obtain⟨_,_,N⟩:=zk o
               cases N;simp
             ·cases w;simp
          rcases U.1 with⟨rfl,o⟩|⟨rfl,o⟩|⟨rfl,o⟩|⟨rfl,o⟩|⟨rfl,o⟩|⟨rfl,o⟩
          ·exact absurd rfl O.1
          ·obtain⟨_,Q,_,rfl,_⟩:=o
           simp[rN]at S
           refine⟨?_,fun _=>rfl,?_,fun _=>?_,fun e=>by omega⟩
           ·rw[WS];exact⟨Or.inl ⟨rfl,Q.2,Or.inl rfl,y1,rfl,rfl⟩,ku⟩
           ·rw[DS1];simp;omega
           ·rw[NS1];simp[leftOf];omega
          ·obtain⟨_,Q,_,g2,X,_⟩:=o
           simp[rN]at Z S
           refine⟨?_,fun _=>rfl,?_,fun _=>?_,fun e=>by omega⟩
           ·rw[WS];exact⟨Or.inl ⟨rfl,Q.2,Or.inr ⟨g2,X,by simp only[leftOf];omega⟩,y1,rfl,rfl⟩,ku⟩
           ·rw[DS1];simp;omega
           ·have:le.isEmpty=false:=by obtain⟨z,rfl⟩:=len1 X;rfl
            rw[NS1];simp[leftOf,this];omega
          ·exact absurd rfl O.2.1
          ·exact absurd rfl O.2.2
          ·exact absurd rfl v
         ·cases c
    ·rename_i W
     have e3:k=3:=by omega
     subst e3
     obtain⟨⟨x,B⟩,a,c⟩:=zk h
     obtain⟨x1,x2,x3⟩:=ex0_ev H a
     obtain⟨C,p,t⟩:=zk c
     obtain⟨w2,d⟩:=zG (H.suf x3) p
     simp[wThen]at w2
     obtain⟨⟨R,E⟩,A,g⟩:=zk t
     have q:=ih 0 (b+1) C R E d (by omega) (by omega) (by omega) A
     have D:=q.ns (by omega)
     have Y:=q.ds
     have P:=d.suf (xH f _ _ _ _ _ d.gd A).1
     have M:=yk P
     simp only at g
     split at g
     ·rename_i L
      obtain⟨⟨e,K⟩,G,F⟩:=zk g
      have u:=ih 3 (b+1) E e K P (by omega) (by omega) (by intro _;rw[L];decide) G
      have u1:=u.n3 rfl
      rw[L]at u1
      simp[wElsif]at u1
      have u2:=u.ds
      have u3:=u.one (by omega)
      have ue:e.isEmpty=false:=by obtain⟨z,rfl⟩:=len1 u3;rfl
      cases F
      refine⟨?_,fun _=>rfl,?_,fun e=>by omega,fun _=>?_⟩
      ·rw[WS];exact⟨Or.inr (Or.inl ⟨rfl,rfl,rfl,x1,q.ws,u.ws⟩),ku⟩
      ·rw[DS1];simp;omega
      ·rw[NS1];simp[ue];omega
     ·split at g
      ·rename_i L
       rw[L]at M
       simp[wElse]at M
       obtain⟨⟨e,K⟩,G,F⟩:=zk g
       have u:=ih 0 (b+1) (stp E) e K (P.suf (zy E)) (by omega) (by omega) (by omega) G
       have u1:=u.ns (by omega)
       have u2:=u.ds
       cases F
       refine⟨?_,fun _=>rfl,?_,fun e=>by omega,fun _=>?_⟩
       ·rw[WS];exact⟨Or.inr (Or.inl ⟨rfl,rfl,rfl,x1,q.ws,u.ws⟩),ku⟩
       ·rw[DS1];simp;omega
       ·rw[NS1];simp;split<;>omega
      ·cases g
       refine⟨?_,fun _=>rfl,?_,fun e=>by omega,fun _=>?_⟩
       ·rw[WS];exact⟨Or.inr (Or.inl ⟨rfl,rfl,rfl,x1,q.ws,ku⟩),ku⟩
       ·rw[DS1];simp[DS];omega
       ·rw[NS1];simp;omega
def okns (l:List Bs):Prop:=∀n,n∈l->okn n
structure WG (g:G):Prop where
 n:okn g.name
 l:g.len<=30
structure WP (p:Pr):Prop where
 n:okn p.name
 ps:okns p.params
 vs:okns p.vars
 c:p.params.length+p.vars.length<=10
 b:WS p.body
 d:DS p.body<=10
structure WM (m:M):Prop where
 n:okn m.name
 i:okns m.imports
 ic:m.imports.length<=6
 g:∀g,g∈m.vars->WG g
 gc:m.vars.length<=10
 p:∀p,p∈m.procs->WP p
 pc:m.procs.length<=10
 b:WS m.body
 d:DS m.body<=10
def nN (l:List Bs):Nat:=2*l.length-1
def b2 (b:Bool):Nat:=if b then 1 else 0
def nG (g:G):Nat:=4+b2 g.seen+(if g.len=0 then 1 else 2)
def nP (p:Pr):Nat:=2+b2 p.seen+3+nN p.params+(if p.vars=[] then 0 else 2+nN p.vars)+1+NS p.body+2
def nM (m:M):Nat:=3+(if m.imports=[] then 0 else 2+nN m.imports)+(m.vars.map nG).sum+(m.procs.map nP).sum+1+NS m.body+2
theorem jF (f:Nat):∀d c r l b,Tks r->names f d c r=.ok (l,b)->okns l/\1<=l.length/\d+l.length<=c/\nN l+wt b<=wt r/\Tks b:=by
 induction f with
 |zero=>intro d c r l b _ h;cases h
 |succ f ih =>
  intro d c r l b j h
  rw[names]at h
  split at h
  ·cases h
  ·obtain⟨⟨n,z⟩,s,e⟩:=zk h
   obtain⟨i,rfl,w⟩:=yU j s
   have g:=j.suf (zy r)
   have k:=yk g
   simp only at e
   split at e
   ·rename_i v
    rw[v]at k
    simp[mComma]at k
    obtain⟨⟨y,A⟩,t,u⟩:=zk e
    obtain⟨o,b2,x,p,q⟩:=ih _ _ _ _ _ (g.suf (zy _)) t
    cases u
    refine⟨?_,by simp,by simp;omega,?_,q⟩
    ·intro m a
     rcases List.mem_cons.mp a with rfl|a
     ·exact i
     ·exact o m a
    ·unfold nN at p ⊢;simp;omega
   ·cases e
    exact⟨by intro m a;rw[List.mem_singleton]at a;subst a;exact i,by simp,by simp;omega,by unfold nN;simp;omega,g⟩
theorem star_wt {r:List Tok}(a:Tks r):wt (if tx r=mStar then stp r else r)+b2 (tx r==mStar)=wt r/\Tks (if tx r=mStar then stp r else r):=by
 have b:=yk a
 by_cases h:tx r=mStar
 ·rw[if_pos h]
  rw[h]at b
  simp[mStar]at b
  exact⟨by rw[h];simp[b2];omega,a.suf (zy r)⟩
 ·rw[if_neg h]
  have:(tx r==mStar)=false:=by simpa using h
  exact⟨by rw[this];simp[b2],a⟩
theorem global_wg {r i:List Tok}{g:G}(p:Tks r)(h:global r=.ok (g,i)):WG g/\nG g+wt i<=wt r+1/\Tks i:=by
 unfold global at h
 obtain⟨⟨n,J⟩,x,y⟩:=zk h
 obtain⟨m,rfl,F⟩:=yU p x
 have u:=p.suf (zy r)
 obtain⟨s1,s2⟩:=star_wt u
 obtain⟨K,o,b⟩:=zk y
 try simp only at o
 obtain⟨D,d⟩:=zG s2 o
 simp[mColon]at D
 have l:=yk d
 simp only at b
 split at b
 ·rename_i B
  rw[B]at l
  simp[wInt]at l
  obtain⟨q,e,f⟩:=zk b
  obtain⟨j,a⟩:=zG (d.suf (zy _)) e
  simp[mSemi]at j
  cases f
  refine⟨⟨m,by simp⟩,?_,a⟩
  simp only[nG,if_true];omega
 ·obtain⟨q,e,f⟩:=zk b
  obtain⟨j,a⟩:=zG d e
  simp[wArray]at j
  obtain⟨⟨k,L⟩,z,c⟩:=zk f
  obtain⟨H,I,C,rfl⟩:=jb z
  have v:=a.suf (zy q)
  have N:=yk a
  simp only at c
  split at c
  ·cases c
  ·rename_i t
   obtain⟨M,A,s⟩:=zk c
   obtain⟨E,w⟩:=zG v A
   simp[mSemi]at E
   cases s
   refine⟨⟨m,C⟩,?_,w⟩
   simp only[nG];rw[if_neg t];omega
theorem globals_wg (f:Nat):∀a r l b,Tks r->a<=10->globals f a r=.ok (l,b)->(∀g,g∈l->WG g)/\a+l.length<=10/\(l.map nG).sum+wt b<=wt r/\Tks b:=by
 induction f with
 |zero=>intro a r l b _ _ h;cases h
 |succ f ih =>
  intro a r l b c t h
  have e:=yk c
  rw[globals]at h
  split at h
  ·rename_i u
   rw[u]at e
   simp[wVar]at e
   split at h
   ·cases h
   ·rename_i v
    obtain⟨⟨g,A⟩,n,o⟩:=zk h
    obtain⟨j,w,i⟩:=global_wg (c.suf (zy r)) n
    obtain⟨⟨z,B⟩,p,q⟩:=zk o
    obtain⟨k,b2,y,m⟩:=ih _ _ _ _ i (by omega) p
    cases q
    refine⟨?_,by simp;omega,by simp;omega,m⟩
    intro x d
    rcases List.mem_cons.mp d with rfl|d
    ·exact j
    ·exact k x d
  ·cases h
   exact⟨fun g s=>absurd s List.not_mem_nil,by simpa using t,by simp,c⟩
theorem proc_wp {f:Nat}{r o:List Tok}{p:Pr}(hT:Tks r)(h:proc f r=.ok (p,o)):WP p/\nP p+wt o<=wt r/\Tks o:=by
 unfold proc at h
 obtain⟨r1,X,Y⟩:=zk h
 obtain⟨w1,u⟩:=zG hT X
 simp[wProc]at w1
 obtain⟨⟨n,r2⟩,Z,h4⟩:=zk Y
 obtain⟨T,rfl,a2⟩:=yU u Z
 have P:=u.suf (zy r1)
 obtain⟨s1,s2⟩:=star_wt P
 obtain⟨r4,y,h6⟩:=zk h4
 try simp only at y
 obtain⟨w4,v⟩:=zG s2 y
 simp[mLp]at w4
 obtain⟨⟨ps,z⟩,l,h8⟩:=zk h6
 have k5:okns ps/\ps.length<=10/\nN ps+wt z<=wt r4/\Tks z:=by
  split at l
  ·cases l;exact⟨fun n m=>absurd m List.not_mem_nil,by simp,by simp[nN],v⟩
  ·obtain⟨c1,c2,c3,U,V⟩:=jF _ _ _ _ _ _ v l
   exact⟨c1,by omega,U,V⟩
 obtain⟨c1,c2,c3,Q⟩:=k5
 obtain⟨r6,h9,E⟩:=zk h8
 obtain⟨w6,R⟩:=zG Q h9
 simp[mRp]at w6
 obtain⟨r7,F,G⟩:=zk E
 obtain⟨w7,j⟩:=zG R F
 simp[mSemi]at w7
 obtain⟨⟨vs,A⟩,d,H⟩:=zk G
 have k8:okns vs/\ps.length+vs.length<=10/\(if vs=[] then 0 else 2+nN vs)+wt A<=wt r7/\Tks A:=by
  split at d
  ·rename_i hv
   have t:=yk j
   rw[hv]at t
   simp[wVar]at t
   obtain⟨⟨a5,a4⟩,e,g⟩:=zk d
   obtain⟨k,w,x,d4,W⟩:=jF _ _ _ _ _ _ (j.suf (zy _)) e
   obtain⟨B,c,i⟩:=zk g
   obtain⟨s,a⟩:=zG W c
   simp[mSemi]at s
   cases i
   refine⟨k,x,?_,a⟩
   split<;>omega
  ·cases d;exact⟨fun n m=>absurd m List.not_mem_nil,by simpa using c2,by simp,j⟩
 obtain⟨k,w,x,S⟩:=k8
 obtain⟨B,e,g⟩:=zk H
 obtain⟨s,a⟩:=zG S e
 simp[wBegin]at s
 obtain⟨⟨b,M⟩,c,i⟩:=zk g
 have q:=sx_ry f 0 0 B b M a (by omega) (by omega) (by omega) c
 have q1:=q.ns (by omega)
 have q2:=q.ds
 obtain⟨a0,I,J⟩:=zk i
 obtain⟨N,C⟩:=zG (a.suf (xH f _ _ _ _ _ a.gd c).1) I
 simp[wEnd]at N
 obtain⟨a3,K,L⟩:=zk J
 obtain⟨O,D⟩:=zG C K
 simp[mSemi]at O
 cases L
 refine⟨⟨T,c1,k,w,q.ws,show DS b<=10 by omega⟩,?_,D⟩
 simp only[nP];omega
theorem procs_wp (f:Nat):∀g a r l b,Tks r->a<=10->procs f g a r=.ok (l,b)->(∀p,p∈l->WP p)/\a+l.length<=10/\(l.map nP).sum+wt b<=wt r/\Tks b:=by
 induction f with
 |zero=>intro g a r l b _ _ h;cases h
 |succ f ih =>
  intro g a r l b d t h
  rw[procs]at h
  split at h
  ·split at h
   ·cases h
   ·rename_i u
    obtain⟨⟨p,z⟩,m,n⟩:=zk h
    obtain⟨i,v,e⟩:=proc_wp d m
    obtain⟨⟨y,A⟩,o,q⟩:=zk n
    obtain⟨j,b2,w,k⟩:=ih _ _ _ _ _ e (by omega) o
    cases q
    refine⟨?_,by simp;omega,by simp;omega,k⟩
    intro x c
    rcases List.mem_cons.mp c with rfl|c
    ·exact i
    ·exact j x c
  ·cases h
   exact⟨fun g s=>absurd s List.not_mem_nil,by simpa using t,by simp,d⟩
theorem module_wm {f:Nat}{r:List Tok}{m:M}(V:Tks r)(h:module f r=.ok m):WM m/\nM m<=wt r:=by
 unfold module at h
 obtain⟨Z,N,O⟩:=zk h
 obtain⟨w1,t⟩:=zG V N
 simp[wModule]at w1
 obtain⟨⟨n,r2⟩,P,Q⟩:=zk O
 obtain⟨G,rfl,a2⟩:=yU t P
 have C:=t.suf (zy Z)
 obtain⟨r3,R,S⟩:=zk Q
 obtain⟨w3,i⟩:=zG C R
 simp[mSemi]at w3
 obtain⟨⟨is,u⟩,o,T⟩:=zk S
 have Y:okns is/\is.length<=6/\(if is=[] then 0 else 2+nN is)+wt u<=wt r3/\Tks u:=by
  split at o
  ·rename_i X
   have s:=yk i
   rw[X]at s
   simp[wImport]at s
   obtain⟨⟨a5,a4⟩,a,c⟩:=zk o
   obtain⟨l,H,I,d4,J⟩:=jF _ _ _ _ _ _ (i.suf (zy _)) a
   obtain⟨r9,d,e⟩:=zk c
   obtain⟨p,k⟩:=zG J d
   simp[mSemi]at p
   cases e
   refine⟨l,by omega,?_,k⟩
   split<;>omega
  ·cases o;exact⟨fun n W=>absurd W List.not_mem_nil,by simp,by simp,i⟩
 obtain⟨c1,c2,c3,D⟩:=Y
 obtain⟨⟨L,r5⟩,U,v⟩:=zk T
 obtain⟨l,H,I,E⟩:=globals_wg _ _ _ _ _ D (by omega) U
 obtain⟨⟨ps,r6⟩,w,x⟩:=zk v
 obtain⟨K,e2,e3,F⟩:=procs_wp _ _ _ _ _ _ E (by omega) w
 obtain⟨r7,y,z⟩:=zk x
 obtain⟨w7,j⟩:=zG F y
 simp[wBegin]at w7
 obtain⟨⟨b,r8⟩,a,c⟩:=zk z
 have q:=sx_ry f 0 0 r7 b r8 j (by omega) (by omega) (by omega) a
 have q1:=q.ns (by omega)
 have q2:=q.ds
 obtain⟨r9,d,e⟩:=zk c
 obtain⟨p,k⟩:=zG (j.suf (xH f _ _ _ _ _ j.gd a).1) d
 simp[wEnd]at p
 obtain⟨a3,A,g⟩:=zk e
 obtain⟨B,a0⟩:=zG k A
 simp[mDot]at B
 split at g
 ·cases g
  refine⟨⟨G,c1,c2,l,show L.length<=10 by omega,K,show ps.length<=10 by omega,q.ws,show DS b<=10 by omega⟩,?_⟩
  simp only[nM];omega
 ·cases g
theorem ld_first {c:UInt8}:(letter c=true->blank c=false/\ld c=true)/\(digit c=true->blank c=false/\letter c=false):=by
 refine⟨fun h=>⟨?_,by simp[ld,h]⟩,fun h=>⟨?_,?_⟩⟩
 ·cases a:blank c with
  |false=>rfl
  |true=>simp only[blank,Bool.or_eq_true,beq_iff_eq]at a;rcases a with rfl|rfl<;>revert h<;>decide
 ·cases a:blank c with
  |false=>rfl
  |true=>simp only[blank,Bool.or_eq_true,beq_iff_eq]at a;rcases a with rfl|rfl<;>revert h<;>decide
 ·simp only[digit,letter,decide_eq_true_eq,decide_eq_false_iff_not]at h ⊢;omega
theorem kM {p:UInt8->Bool}:∀(l:Bs) (d:UInt8),d∈l.takeWhile p->p d=true:=by
 intro l
 induction l with
 |nil=>intro d h;cases h
 |cons c l ih =>
  intro d h
  rw[List.takeWhile_cons]at h
  split at h
  ·rcases List.mem_cons.mp h with rfl|h
   ·assumption
   ·exact ih d h
  ·cases h
theorem kh {p:UInt8->Bool}:∀l:Bs,l.take (l.takeWhile p).length=l.takeWhile p:=by
 intro l
 induction l with
 |nil=>rfl
 |cons c l ih =>
  rw[List.takeWhile_cons]
  split
  ·rw[List.length_cons,List.take_succ_cons,ih]
  ·rfl
theorem cut_tk {l:Bs}{k n pos:Nat}(h:cut l=some (k,n)):Tk ⟨k,pos,l.take n⟩/\n<=l.length/\1<=n:=by
 cases l with
 |nil=>cases h
 |cons c t =>
  rw[cut]at h
  split at h
  ·rename_i a
   cases h
   rw[kh]
   have b:ld c=true:=(ld_first.1 a).2
   have e:(c :: t).takeWhile ld=c :: t.takeWhile ld:=by rw[List.takeWhile_cons,if_pos b]
   refine⟨⟨fun e=>(by cases e),fun _=>⟨c,_,e,a,fun d hd=>kM _ d hd⟩,fun e=>(by cases e),fun e=>(by cases e),by simp⟩,(List.takeWhile_sublist _).length_le,by rw[e];simp⟩
  ·split at h
   ·rename_i a
    cases h
    rw[kh]
    have e:(c :: t).takeWhile digit=c :: t.takeWhile digit:=by rw[List.takeWhile_cons,if_pos a]
    refine⟨⟨fun e=>(by cases e),fun e=>(by cases e),fun _=>⟨?_,fun d hd=>kM _ d hd⟩,fun e=>(by cases e),by simp⟩,(List.takeWhile_sublist _).length_le,by rw[e];simp⟩
    show (c :: t).takeWhile digit≠[]
    rw[e];simp
   ·rw[Option.map_eq_some_iff]at h
    obtain⟨m,f,o⟩:=h
    cases o
    have g:=List.mem_of_find?_eq_some f
    have i:=List.find?_some f
    rw[List.isPrefixOf_iff_prefix]at i
    obtain⟨r,j⟩:=i
    have e:(c :: t).take m.length=m:=by rw[<-j,List.take_left]
    have b:=congrArg List.length j
    rw[List.length_append]at b
    have:∀m:Bs,m∈marks->1<=m.length:=by decide
    rw[e]
    exact⟨⟨fun e=>(by cases e),fun e=>(by cases e),fun e=>(by cases e),fun _=>g,by simp⟩,by omega,this m g⟩
theorem scan_tks:∀(f i pos:Nat) (l:Bs) (g:List Tok),scan f i pos l=.ok g->Tks g/\wt g<=l.length/\(i<=600->i+g.length<=601)/\(∃t z,g=t++[z]/\z.kind=0):=by
 intro f
 induction f with
 |zero=>intro i pos l g h;cases h
 |succ f ih =>
  intro i pos l g h
  rw[scan.eq_def]at h
  simp only at h
  split at h
  ·cases h
   refine⟨?_,by simp[wt],fun _=>by simp;omega,[],_,rfl,rfl⟩
   intro t k
   rw[List.mem_singleton]at k
   subst k
   exact⟨fun _=>rfl,fun e=>(by cases e),fun e=>(by cases e),fun e=>(by cases e),by simp⟩
  ·rename_i c t
   split at h
   ·obtain⟨a,b,c,d⟩:=ih _ _ _ _ h
    exact⟨a,by simp;omega,c,d⟩
   ·split at h
    ·cases h
    ·rename_i r n hcut
     obtain⟨c1,c2,c3⟩:=cut_tk (pos:=pos) hcut
     split at h
     ·cases h
     ·split at h
      ·cases h
      ·rename_i o m
       cases h
       obtain⟨a,b,d,s,z,p,q⟩:=ih _ _ _ _ m
       refine⟨?_,?_,fun _=>by have:=d (by omega);simp at this ⊢;omega,⟨r,pos,(c :: t).take n⟩ :: s,z,by rw[p];rfl,q⟩
       ·intro u j
        rcases List.mem_cons.mp j with rfl|j
        ·exact c1
        ·exact a u j
       ·rw[List.length_drop]at b
        show ((c :: t).take n).length+wt o<=_
        rw[List.length_take]
        omega
theorem parse_wm {l:Bs}{m:M}(h:parse l=.ok m):WM m/\nM m<=l.length:=by
 unfold parse at h
 obtain⟨g,e,f⟩:=zk h
 obtain⟨a,b,_⟩:=scan_tks _ _ _ _ _ e
 obtain⟨c,d⟩:=module_wm a f
 exact⟨c,by omega⟩
theorem scan_tl:∀(f d pos:Nat) (l:Bs) (b:List Tok),scan f d pos l=.ok b->∀t,t∈b->t.text.length<=l.length/\t.pos<=pos+l.length:=by
 intro f
 induction f with
 |zero=>intro d pos l b h;cases h
 |succ f ih =>
  intro d pos l b h
  rw[scan.eq_def]at h
  simp only at h
  split at h
  ·cases h
   intro t e
   rw[List.mem_singleton]at e
   subst e
   simp
  ·rename_i c t
   split at h
   ·intro u a
    have:=ih _ _ _ _ h u a
    simp at this ⊢
    omega
   ·split at h
    ·cases h
    ·rename_i j n hcut
     obtain⟨c1,c2,c3⟩:=cut_tk (pos:=pos) hcut
     split at h
     ·cases h
     ·split at h
      ·cases h
      ·rename_i i g
       cases h
       intro u a
       rcases List.mem_cons.mp a with rfl|a
       ·simp only[List.length_take];omega
       ·have:=ih _ _ _ _ g u a
        rw[List.length_drop]at this
        omega
end Tp
