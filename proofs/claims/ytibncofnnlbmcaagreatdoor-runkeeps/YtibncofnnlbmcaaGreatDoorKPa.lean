set_option maxRecDepth 100000
set_option maxHeartbeats 4000000
namespace Tp
abbrev Bs:=List UInt8
structure Tok where
 kind:Nat
 pos:Nat
 text:Bs
structure X where
 code:Nat
 pos:Nat
 n:Nat
 mod:Bs
 name:Bs
 op:Bs
 left:List X
 right:List X
 args:List X
structure S where
 code:Nat
 pos:Nat
 name:Bs
 index:List X
 value:List X
 thn:List S
 els:List S
structure G where
 name:Bs
 pos:Nat
 len:Nat
 seen:Bool
structure Pr where
 name:Bs
 pos:Nat
 seen:Bool
 params:List Bs
 vars:List Bs
 body:List S
structure M where
 name:Bs
 imports:List Bs
 vars:List G
 procs:List Pr
 body:List S
abbrev Er:=Nat×Nat
def wModule:Bs:=[109,111,100,117,108,101]
def wImport:Bs:=[105,109,112,111,114,116]
def wVar:Bs:=[118,97,114]
def wProc:Bs:=[112,114,111,99]
def wBegin:Bs:=[98,101,103,105,110]
def wEnd:Bs:=[101,110,100]
def wInt:Bs:=[105,110,116]
def wArray:Bs:=[97,114,114,97,121]
def wReturn:Bs:=[114,101,116,117,114,110]
def wWrite:Bs:=[119,114,105,116,101]
def wWhile:Bs:=[119,104,105,108,101]
def wDo:Bs:=[100,111]
def wIf:Bs:=[105,102]
def wThen:Bs:=[116,104,101,110]
def wElsif:Bs:=[101,108,115,105,102]
def wElse:Bs:=[101,108,115,101]
def wOr:Bs:=[111,114]
def wAnd:Bs:=[97,110,100]
def wNot:Bs:=[110,111,116]
def wDiv:Bs:=[100,105,118]
def wMod:Bs:=[109,111,100]
def mSet:Bs:=[58,61]
def mLe:Bs:=[60,61]
def mGe:Bs:=[62,61]
def mNe:Bs:=[35]
def mEq:Bs:=[61]
def mLt:Bs:=[60]
def mGt:Bs:=[62]
def mPlus:Bs:=[43]
def mMinus:Bs:=[45]
def mStar:Bs:=[42]
def mLp:Bs:=[40]
def mRp:Bs:=[41]
def mLb:Bs:=[91]
def mRb:Bs:=[93]
def mComma:Bs:=[44]
def mSemi:Bs:=[59]
def mColon:Bs:=[58]
def mDot:Bs:=[46]
def kept:List Bs:=[wModule,wImport,wVar,wProc,wBegin,wEnd,wInt,wArray,wReturn,wWrite,wWhile,wDo,wIf,wThen,wElsif,wElse,wOr,wAnd,wNot,wDiv,wMod]
def marks:List Bs:=[mSet,mLe,mGe,mNe,mEq,mLt,mGt,mPlus,mMinus,mStar,mLp,mRp,mLb,mRb,mComma,mSemi,mColon,mDot]
def letter (c:UInt8):Bool:=decide (97<=c.toNat/\c.toNat<=122)
def digit (c:UInt8):Bool:=decide (48<=c.toNat/\c.toNat<=57)
def ld (c:UInt8):Bool:=letter c || digit c
def blank (c:UInt8):Bool:=c==32 || c==10
def cut:Bs->Option (Nat×Nat)
 |[]=>none
 |c :: l=>if letter c then some (1,((c :: l).takeWhile ld).length)
  else if digit c then some (2,((c :: l).takeWhile digit).length)
  else (marks.find? (fun m=>m.isPrefixOf (c :: l))).map (fun m=>(3,m.length))
def scan:Nat->Nat->Nat->Bs->Except Er (List Tok)
 | 0,_,_,_=>.error (99,0)
 |f+1,cnt,pos,l =>
  match l with
  |[]=>.ok [⟨0,pos,[]⟩]
  |c :: t=>if blank c then scan f cnt (pos+1) t else
   match cut (c :: t) with
   |none=>.error (3,pos)
   |some (kd,n)=>if cnt=600 then .error (4,pos) else
    match scan f (cnt+1) (pos+n) ((c :: t).drop n) with
    | .error e=>.error e
    | .ok ts=>.ok (⟨kd,pos,(c :: t).take n⟩ :: ts)
def hd (r:List Tok):Tok:=r.headD ⟨0,0,[]⟩
def tx (r:List Tok):Bs:=(hd r).text
def at' (r:List Tok):Nat:=(hd r).pos
def stp (r:List Tok):List Tok:=if (hd r).kind=0 then r else r.tail
def want (s:Bs) (r:List Tok):Except Er (List Tok):=if tx r=s then .ok (stp r) else .error (3,at' r)
def name (r:List Tok):Except Er (Bs×List Tok) :=
 if (hd r).kind≠1\/tx r∈kept then .error (3,at' r)
 else if 10<(tx r).length then .error (4,at' r) else .ok (tx r,stp r)
def names:Nat->Nat->Nat->List Tok->Except Er ((List Bs)×List Tok)
 | 0,_,_,r=>.error (99,at' r)
 |f+1,had,most,r=>if most<=had then .error (4,at' r) else do
  let (n,r1) <- name r
  if tx r1=mComma then do
   let (l,r2) <- names f (had+1) most (stp r1)
   .ok (n :: l,r2)
  else .ok ([n],r1)
def val (l:Bs):Nat:=l.foldl (fun a c=>a*10+(c.toNat-48)) 0
def number (most:Nat) (r:List Tok):Except Er (Nat×List Tok) :=
 if (hd r).kind≠2 then .error (3,at' r)
 else if most<val (tx r) then .error (4,at' r) else .ok (val (tx r),stp r)
def lvl (op:Bs):Nat :=
 if op=wOr then 0 else if op=wAnd then 1
 else if op=mEq\/op=mNe\/op=mLt\/op=mLe\/op=mGt\/op=mGe then 2
 else if op=mPlus\/op=mMinus then 3
 else if op=mStar\/op=wDiv\/op=wMod then 4 else 5
def top:Nat:=9223372036854775807
def ex:Nat->Nat->Nat->Nat->List X->List Tok->Except Er ((List X)×List Tok)
 | 0,_,_,_,_,_=>.error (99,0)
 |f+1,k,ones,a,acc,r =>
  if k<5 then do
   let (x,r1) <- ex f (k+1) ones 0 [] r
   ex f (10+k) ones (at' r) x r1
  else if k=5 then
   if 10<ones then .error (4,at' r)
   else if (hd r).kind=2 then do
    let (n,r1) <- number top r
    .ok ([⟨1,at' r,n,[],[],[],[],[],[]⟩],r1)
   else if tx r=mMinus\/tx r=wNot then do
    let (x,r1) <- ex f 5 (ones+1) 0 [] (stp r)
    .ok ([⟨4,at' r,0,[],[],tx r,x,[],[]⟩],r1)
   else if tx r=mLp then do
    let (x,r1) <- ex f 0 (ones+1) 0 [] (stp r)
    let r2 <- want mRp r1
    .ok (x,r2)
   else ex f 6 ones 0 [] r
  else if k=6 then do
   let (n1,r1) <- name r
   let ((m,n),r2) <- (if tx r1=mDot then do
     let (n2,r2) <- name (stp r1)
     .ok ((n1,n2),r2)
    else .ok (([],n1),r1):Except Er ((Bs×Bs)×List Tok))
   if tx r2=mLb then do
    let (x,r3) <- ex f 0 (ones+1) 0 [] (stp r2)
    let r4 <- want mRb r3
    .ok ([⟨3,at' r,0,m,n,[],x,[],[]⟩],r4)
   else if tx r2=mLp then
    if tx (stp r2)=mRp then .ok ([⟨6,at' r,0,m,n,[],[],[],[]⟩],stp (stp r2))
    else do
     let (l,r3) <- ex f 7 ones 0 [] (stp r2)
     let r4 <- want mRp r3
     .ok ([⟨6,at' r,0,m,n,[],[],[],l⟩],r4)
   else .ok ([⟨2,at' r,0,m,n,[],[],[],[]⟩],r2)
  else if k=7 then do
   let (x,r1) <- ex f 0 (ones+1) 0 [] r
   if tx r1=mComma then do
    let (l,r2) <- ex f 7 ones 0 [] (stp r1)
    .ok (x++l,r2)
   else .ok (x,r1)
  else if lvl (tx r)=k-10 then do
   let (y,r1) <- ex f (k-10+1) ones 0 [] (stp r)
   ex f k ones a [⟨5,a,0,[],[],tx r,acc,y,[]⟩] r1
  else .ok (acc,r)
def codeOf (l:List X):Nat:=match l with|x :: _=>x.code|[]=>0
def modOf (l:List X):Bs:=match l with|x :: _=>x.mod|[]=>[]
def nameOf (l:List X):Bs:=match l with|x :: _=>x.name|[]=>[]
def leftOf (l:List X):List X:=match l with|x :: _=>x.left|[]=>[]
def sx:Nat->Nat->Nat->List Tok->Except Er ((List S)×List Tok)
 | 0,_,_,_=>.error (99,0)
 |f+1,k,blocks,r =>
  if k=0 then if 10<blocks then .error (4,at' r) else sx f 1 blocks r
  else if k=1 then
   if tx r=wEnd\/tx r=wElsif\/tx r=wElse then .ok ([],r) else do
    let (s,r1) <- sx f 2 blocks r
    let (l,r2) <- sx f 1 blocks r1
    .ok (s++l,r2)
  else if k=2 then
   if tx r=wReturn\/tx r=wWrite then do
    let (x,r1) <- ex f 0 0 0 [] (stp r)
    let r2 <- want mSemi r1
    .ok ([⟨if tx r=wReturn then 4 else 5,at' r,[],[],x,[],[]⟩],r2)
   else if tx r=wWhile then do
    let (x,r1) <- ex f 0 0 0 [] (stp r)
    let r2 <- want wDo r1
    let (l,r3) <- sx f 0 (blocks+1) r2
    let r4 <- want wEnd r3
    let r5 <- want mSemi r4
    .ok ([⟨3,at' r,[],[],x,l,[]⟩],r5)
   else if tx r=wIf then do
    let (s,r1) <- sx f 3 blocks r
    let r2 <- want wEnd r1
    let r3 <- want mSemi r2
    .ok (s,r3)
   else do
    let (x,r1) <- ex f 6 0 0 [] r
    if codeOf x=6 then do
     let r2 <- want mSemi r1
     .ok ([⟨6,at' r,[],[],x,[],[]⟩],r2)
    else if modOf x=[] then do
     let r2 <- want mSet r1
     let (y,r3) <- ex f 0 0 0 [] r2
     let r4 <- want mSemi r3
     .ok ([⟨1,at' r,nameOf x,leftOf x,y,[],[]⟩],r4)
    else .error (3,at' r1)
  else do
   let (x,r1) <- ex f 0 0 0 [] (stp r)
   let r2 <- want wThen r1
   let (l,r3) <- sx f 0 (blocks+1) r2
   if tx r3=wElsif then do
    let (e,r4) <- sx f 3 (blocks+1) r3
    .ok ([⟨2,at' r,[],[],x,l,e⟩],r4)
   else if tx r3=wElse then do
    let (e,r4) <- sx f 0 (blocks+1) (stp r3)
    .ok ([⟨2,at' r,[],[],x,l,e⟩],r4)
   else .ok ([⟨2,at' r,[],[],x,l,[]⟩],r3)
def global (r:List Tok):Except Er (G×List Tok):=do
 let (n,r1) <- name r
 let r2:=if tx r1=mStar then stp r1 else r1
 let r3 <- want mColon r2
 if tx r3=wInt then do
  let r4 <- want mSemi (stp r3)
  .ok (⟨n,at' r,0,tx r1==mStar⟩,r4)
 else do
  let r4 <- want wArray r3
  let (k,r5) <- number 30 r4
  if k=0 then .error (2,at' r5) else do
   let r6 <- want mSemi r5
   .ok (⟨n,at' r,k,tx r1==mStar⟩,r6)
def globals:Nat->Nat->List Tok->Except Er ((List G)×List Tok)
 | 0,_,r=>.error (99,at' r)
 |f+1,had,r=>if tx r=wVar then
   if had=10 then .error (4,at' (stp r)) else do
    let (g,r1) <- global (stp r)
    let (l,r2) <- globals f (had+1) r1
    .ok (g :: l,r2)
  else .ok ([],r)
def proc (f:Nat) (r:List Tok):Except Er (Pr×List Tok):=do
 let r1 <- want wProc r
 let (n,r2) <- name r1
 let r3:=if tx r2=mStar then stp r2 else r2
 let r4 <- want mLp r3
 let (ps,r5) <- (if tx r4=mRp then .ok ([],r4) else names 11 0 10 r4:Except Er ((List Bs)×List Tok))
 let r6 <- want mRp r5
 let r7 <- want mSemi r6
 let (vs,r8) <- (if tx r7=wVar then do
   let (vs,r8) <- names 11 ps.length 10 (stp r7)
   let r9 <- want mSemi r8
   .ok (vs,r9)
  else .ok ([],r7):Except Er ((List Bs)×List Tok))
 let r9 <- want wBegin r8
 let (b,r10) <- sx f 0 0 r9
 let r11 <- want wEnd r10
 let r12 <- want mSemi r11
 .ok (⟨n,at' r,tx r2==mStar,ps,vs,b⟩,r12)
def procs:Nat->Nat->Nat->List Tok->Except Er ((List Pr)×List Tok)
 | 0,_,_,r=>.error (99,at' r)
 |f+1,g,had,r=>if tx r=wProc then
   if had=10 then .error (4,at' r) else do
    let (p,r1) <- proc g r
    let (l,r2) <- procs f g (had+1) r1
    .ok (p :: l,r2)
  else .ok ([],r)
def module (f:Nat) (r:List Tok):Except Er M:=do
 let r1 <- want wModule r
 let (n,r2) <- name r1
 let r3 <- want mSemi r2
 let (is,r4) <- (if tx r3=wImport then do
   let (is,r4) <- names 7 0 6 (stp r3)
   let r5 <- want mSemi r4
   .ok (is,r5)
  else .ok ([],r3):Except Er ((List Bs)×List Tok))
 let (gs,r5) <- globals 12 0 r4
 let (ps,r6) <- procs 12 f 0 r5
 let r7 <- want wBegin r6
 let (b,r8) <- sx f 0 0 r7
 let r9 <- want wEnd r8
 let r10 <- want mDot r9
 if (hd r10).kind=0 then .ok ⟨n,is,gs,ps,b⟩ else .error (3,at' r10)
def parse (l:Bs):Except Er M:=do
 let ts <- scan (l.length+1) 0 0 l
 module (20*ts.length+20) ts
def dec (n:Nat):Bs:=if h:n<10 then [UInt8.ofNat (48+n)] else dec (n / 10)++[UInt8.ofNat (48+n % 10)]
def isLow (k:Nat):List X->Bool
 |x :: _=>x.code==5&&decide (lvl x.op<k)
 |[]=>false
abbrev out {α:Type}:Except Er α:=.error (99,0)
def Le {α:Type}(a b:Except Er α):Prop:=a=out\/b=a
theorem Le.refl {α:Type}(a:Except Er α):Le a a:=Or.inr rfl
theorem Le.bind {α β:Type}{a b:Except Er α}{g h:α->Except Er β}(c:Le a b)(d:∀v,Le (g v) (h v)):Le (a >>= g) (b >>= h):=by
 rcases c with rfl|rfl
 ·exact Or.inl rfl
 ·cases b with
  |error e=>exact Or.inr rfl
  |ok v=>exact d v
theorem Le.ite {α:Type}{c:Prop}[Decidable c]{a b d e:Except Er α}(f:Le a d)(g:Le b e):Le (if c then a else b) (if c then d else e):=by
 split<;>assumption
theorem Le.trans {α:Type}{a b c:Except Er α}(d:Le a b)(e:Le b c):Le a c:=by
 rcases d with h|rfl
 ·exact Or.inl h
 ·exact e
theorem Le.eq {α:Type}{a b:Except Er α}(h:Le a b){x:Except Er α}(c:a=x)(d:x≠out):b=x:=by
 rcases h with h|rfl
 ·exact absurd (c.symm.trans h) d
 ·exact c
theorem jh (f:Nat):∀k b a c r,Le (ex f k b a c r) (ex (f+1) k b a c r):=by
 induction f with
 |zero=>intro k b a c r;exact Or.inl rfl
 |succ f ih =>
  intro k b a c r
  rw[ex,ex]
  refine Le.ite ?_ (Le.ite (Le.ite (Le.refl _) (Le.ite (Le.refl _) (Le.ite ?_ (Le.ite ?_ ?_)))) (Le.ite ?_ (Le.ite ?_ (Le.ite ?_ (Le.refl _)))))
  ·exact Le.bind (ih _ _ _ _ _) fun v=>ih _ _ _ _ _
  ·exact Le.bind (ih _ _ _ _ _) fun v=>Le.refl _
  ·exact Le.bind (ih _ _ _ _ _) fun v=>Le.refl _
  ·exact ih _ _ _ _ _
  ·refine Le.bind (Le.refl _) fun v=>?_
   refine Le.bind (Le.refl _) fun u=>?_
   refine Le.ite ?_ (Le.ite (Le.ite (Le.refl _) ?_) (Le.refl _))
   ·exact Le.bind (ih _ _ _ _ _) fun v=>Le.refl _
   ·exact Le.bind (ih _ _ _ _ _) fun v=>Le.refl _
  ·refine Le.bind (ih _ _ _ _ _) fun v=>?_
   exact Le.ite (Le.bind (ih _ _ _ _ _) fun v=>Le.refl _) (Le.refl _)
  ·exact Le.bind (ih _ _ _ _ _) fun v=>ih _ _ _ _ _
theorem ex_le {f g:Nat}(h:f<=g)(k b a:Nat)(c:List X)(r:List Tok):Le (ex f k b a c r) (ex g k b a c r):=by
 induction h with
 |refl=>exact Le.refl _
 |step _ ih=>exact ih.trans (jh _ _ _ _ _ _)
theorem sx_step (f:Nat):∀k b r,Le (sx f k b r) (sx (f+1) k b r):=by
 induction f with
 |zero=>intro k b r;exact Or.inl rfl
 |succ f ih =>
  intro k b r
  rw[sx,sx]
  refine Le.ite (Le.ite (Le.refl _) (ih _ _ _)) (Le.ite (Le.ite (Le.refl _) ?_) (Le.ite (Le.ite ?_ (Le.ite ?_ (Le.ite ?_ ?_))) ?_))
  ·exact Le.bind (ih _ _ _) fun v=>Le.bind (ih _ _ _) fun v=>Le.refl _
  ·exact Le.bind (jh _ _ _ _ _ _) fun v=>Le.refl _
  ·refine Le.bind (jh _ _ _ _ _ _) fun v=>Le.bind (Le.refl _) fun v=>Le.bind (ih _ _ _) fun v=>Le.refl _
  ·exact Le.bind (ih _ _ _) fun v=>Le.refl _
  ·refine Le.bind (jh _ _ _ _ _ _) fun v=>?_
   exact Le.ite (Le.refl _) (Le.ite (Le.bind (Le.refl _) fun v=>Le.bind (jh _ _ _ _ _ _) fun v=>Le.refl _) (Le.refl _))
  ·refine Le.bind (jh _ _ _ _ _ _) fun v=>Le.bind (Le.refl _) fun v=>Le.bind (ih _ _ _) fun v=>?_
   exact Le.ite (Le.bind (ih _ _ _) fun v=>Le.refl _) (Le.ite (Le.bind (ih _ _ _) fun v=>Le.refl _) (Le.refl _))
theorem sx_le {f g:Nat}(h:f<=g)(k b:Nat)(r:List Tok):Le (sx f k b r) (sx g k b r):=by
 induction h with
 |refl=>exact Le.refl _
 |step _ ih=>exact ih.trans (sx_step _ _ _ _)
theorem zk {α β:Type}{a:Except Er α}{g:α->Except Er β}{v:β}(h:(a >>= g)=.ok v):∃u,a=.ok u/\g u=.ok v:=by
 cases a with
 |error e=>cases h
 |ok u=>exact⟨u,rfl,h⟩
theorem zv {α β:Type}{a:Except Er α}{g:α->Except Er β}(b:a≠out)(c:∀u,a=.ok u->g u≠out):(a >>= g)≠out:=by
 cases a with
 |error e=>intro h;apply b;cases h;rfl
 |ok u=>exact c u rfl
theorem zI {α:Type}{c:Prop}[Decidable c]{a b:Except Er α}(d:c->a≠out)(e:¬c->b≠out):(if c then a else b)≠out:=by
 split
 ·exact d ‹_›
 ·exact e ‹_›
theorem zZ {α:Type}(v:α):(.ok v:Except Er α)≠out:=by intro h;cases h
theorem ji {α:Type}{e:Er}(h:e.1≠99):(.error e:Except Er α)≠out:=by intro k;injection k with k;subst k;exact h rfl
def Gd (r:List Tok):Prop:=∀t,t∈r->t.kind=0->t.text=[]
theorem Gd.suf {r a:List Tok}(h:Gd r)(k:a <:+ r):Gd a:=fun t b=>h t (k.subset b)
theorem zy (r:List Tok):stp r <:+ r:=by
 unfold stp
 split
 ·exact List.suffix_refl _
 ·exact List.tail_suffix _
theorem stp_lt {r:List Tok}(h:Gd r)(k:tx r≠[]):(stp r).length<r.length:=by
 cases r with
 |nil=>exact absurd rfl k
 |cons t l =>
  have:(hd (t :: l)).kind≠0:=fun e=>k (h t (by simp) e)
  simp[stp,this]
theorem stp_lt' {r:List Tok}(k:(hd r).kind≠0):(stp r).length<r.length:=by
 cases r with
 |nil=>exact absurd rfl k
 |cons t l=>simp[stp,k]
theorem uB {s:Bs}{r a:List Tok}(h:want s r=.ok a):tx r=s/\a=stp r:=by
 unfold want at h
 split at h
 ·exact⟨‹_›,by cases h;rfl⟩
 ·cases h
theorem zJ (s:Bs)(r:List Tok):want s r≠out:=by
 unfold want;exact zI (fun _=>zZ _) (fun _=>ji (by simp))
theorem name_ok' {r b:List Tok}{n:Bs}(h:name r=.ok (n,b)):(hd r).kind=1/\tx r ∉ kept/\(tx r).length<=10/\n=tx r/\b=stp r:=by
 unfold name at h
 split at h
 ·cases h
 ·rename_i a
  split at h
  ·cases h
  ·cases h
   rw[not_or]at a
   refine⟨by simpa using a.1,a.2,by omega,rfl,rfl⟩
theorem jc (r:List Tok):name r≠out:=by
 unfold name;exact zI (fun _=>ji (by simp)) (fun _=>zI (fun _=>ji (by simp)) (fun _=>zZ _))
theorem kC {r a:List Tok}{n:Bs}(h:name r=.ok (n,a)):a <:+ r/\a.length<r.length:=by
 obtain⟨b,_,_,_,rfl⟩:=name_ok' h
 exact⟨zy r,stp_lt' (by omega)⟩
theorem jb {m n:Nat}{r a:List Tok}(h:number m r=.ok (n,a)):(hd r).kind=2/\n=val (tx r)/\n<=m/\a=stp r:=by
 unfold number at h
 split at h
 ·cases h
 ·rename_i b
  split at h
  ·cases h
  ·cases h
   exact⟨by simpa using b,rfl,by omega,rfl⟩
theorem vL (m:Nat)(r:List Tok):number m r≠out:=by
 unfold number;exact zI (fun _=>ji (by simp)) (fun _=>zI (fun _=>ji (by simp)) (fun _=>zZ _))
theorem vM {m n:Nat}{r a:List Tok}(h:number m r=.ok (n,a)):a <:+ r/\a.length<r.length:=by
 obtain⟨b,_,_,rfl⟩:=jb h
 exact⟨zy r,stp_lt' (by omega)⟩
theorem yl {s:Bs}{r a:List Tok}(c:Gd r)(d:s≠[])(h:want s r=.ok a):a <:+ r/\a.length<r.length:=by
 obtain⟨b,rfl⟩:=uB h
 exact⟨zy r,stp_lt c (by rw[b];exact d)⟩
theorem yC {r:List Tok}{s:Bs}(a:Gd r)(b:s≠[])(h:tx r=s):(stp r).length<r.length:=stp_lt a (by rw[h];exact b)
theorem lvl_nil:lvl []=5:=by decide
def refT (r:List Tok):Except Er ((Bs×Bs)×List Tok):=do
 let (n1,r1) <- name r
 (if tx r1=mDot then do
   let (n2,r2) <- name (stp r1)
   .ok ((n1,n2),r2)
  else .ok (([],n1),r1):Except Er ((Bs×Bs)×List Tok))
def behind (f ones a:Nat) (m n:Bs) (r2:List Tok):Except Er ((List X)×List Tok) :=
 if tx r2=mLb then do
  let (x,r3) <- ex f 0 (ones+1) 0 [] (stp r2)
  let r4 <- want mRb r3
  .ok ([⟨3,a,0,m,n,[],x,[],[]⟩],r4)
 else if tx r2=mLp then
  if tx (stp r2)=mRp then .ok ([⟨6,a,0,m,n,[],[],[],[]⟩],stp (stp r2))
  else do
   let (l,r3) <- ex f 7 ones 0 [] (stp r2)
   let r4 <- want mRp r3
   .ok ([⟨6,a,0,m,n,[],[],[],l⟩],r4)
 else .ok ([⟨2,a,0,m,n,[],[],[],[]⟩],r2)
theorem ex6 (f b a:Nat)(c:List X)(r:List Tok):ex (f+1) 6 b a c r=(do let ((m,n),r2) <- refT r;behind f b (at' r) m n r2):=by
 rw[ex]
 unfold refT behind
 simp only[show ¬(6<5) by omega,if_false,show ¬(6=5) by omega,if_true]
 cases name r with
 |error e=>rfl
 |ok v =>
  obtain⟨d,g⟩:=v
  simp only[bind,Except.bind]
theorem uL {r b:List Tok}{v:Bs×Bs}(h:refT r=.ok (v,b)):b <:+ r/\b.length<r.length:=by
 unfold refT at h
 obtain⟨⟨m,j⟩,e,a⟩:=zk h
 have c:=kC e
 simp only at a
 split at a
 ·obtain⟨⟨n,k⟩,f,g⟩:=zk a
  have i:=kC f
  have d:=zy j
  have l:=d.length_le
  cases g
  exact⟨(i.1.trans d).trans c.1,show k.length<r.length by omega⟩
 ·cases a
  exact c
theorem refT_ne (r:List Tok):refT r≠out:=by
 unfold refT
 refine zv (jc r) fun v _=>?_
 exact zI (fun _=>zv (jc _) fun u _=>zZ _) (fun _=>zZ _)
theorem yI (f:Nat):∀k o a z r x u,Gd r->ex f k o a z r=.ok (x,u)->u <:+ r/\(k<=7->u.length<r.length):=by
 induction f with
 |zero=>intro k o a z r x u _ h;rw[ex]at h;cases h
 |succ f ih =>
  intro k o a z r x u i h
  by_cases t:k=6
  ·subst t
   rw[ex6]at h
   obtain⟨⟨⟨m,n⟩,v⟩,g,d⟩:=zk h
   have b:=uL g
   have w:=i.suf b.1
   simp only[behind]at d
   have c:=zy v
   have E:=c.length_le
   split at d
   ·obtain⟨⟨y,C⟩,j,p⟩:=zk d
    have e:=ih _ _ _ _ _ _ _ (w.suf c) j
    have B:=e.1.length_le
    obtain⟨D,A,t⟩:=zk p
    have q:=yl ((w.suf c).suf e.1) (by decide) A
    cases t
    exact⟨((q.1.trans e.1).trans c).trans b.1,fun _=>by omega⟩
   ·split at d
    ·split at d
     ·cases d
      have q:=zy (stp v)
      have F:=q.length_le
      exact⟨(q.trans c).trans b.1,fun _=>by omega⟩
     ·obtain⟨⟨y,C⟩,j,p⟩:=zk d
      have e:=ih _ _ _ _ _ _ _ (w.suf c) j
      have B:=e.1.length_le
      obtain⟨D,A,t⟩:=zk p
      have q:=yl ((w.suf c).suf e.1) (by decide) A
      cases t
      exact⟨((q.1.trans e.1).trans c).trans b.1,fun _=>by omega⟩
    ·cases d
     exact⟨b.1,fun _=>b.2⟩
  ·rw[ex]at h
   split at h
   ·obtain⟨⟨y,s⟩,g,d⟩:=zk h
    have b:=ih _ _ _ _ _ _ _ i g
    have e:=ih _ _ _ _ _ _ _ (i.suf b.1) d
    have:=e.1.length_le
    have:=b.2 (by omega)
    exact⟨e.1.trans b.1,fun _=>by omega⟩
   ·split at h
    ·split at h
     ·cases h
     ·split at h
      ·obtain⟨⟨y,s⟩,g,d⟩:=zk h
       have b:=vM g
       cases d
       exact⟨b.1,fun _=>b.2⟩
      ·split at h
       ·rename_i G
        obtain⟨⟨y,s⟩,g,d⟩:=zk h
        have c:=zy r
        have:=c.length_le
        have b:=ih _ _ _ _ _ _ _ (i.suf c) g
        have:=b.2 (by omega)
        cases d
        exact⟨b.1.trans c,fun _=>by omega⟩
       ·split at h
        ·obtain⟨⟨y,s⟩,g,d⟩:=zk h
         have c:=zy r
         have:=c.length_le
         have b:=ih _ _ _ _ _ _ _ (i.suf c) g
         have:=b.2 (by omega)
         obtain⟨v,j,p⟩:=zk d
         have e:=yl ((i.suf c).suf b.1) (by decide) j
         cases p
         exact⟨(e.1.trans b.1).trans c,fun _=>by omega⟩
        ·have b:=ih _ _ _ _ _ _ _ i h
         exact⟨b.1,fun _=>b.2 (by omega)⟩
    ·split at h
     ·obtain⟨⟨y,s⟩,g,d⟩:=zk h
      have b:=ih _ _ _ _ _ _ _ i g
      have:=b.2 (by omega)
      simp only at d
      split at d
      ·obtain⟨⟨l,v⟩,j,p⟩:=zk d
       have c:=zy s
       have:=c.length_le
       have e:=ih _ _ _ _ _ _ _ ((i.suf b.1).suf c) j
       have:=e.1.length_le
       cases p
       exact⟨(e.1.trans c).trans b.1,fun _=>show v.length<r.length by omega⟩
      ·cases d
       exact⟨b.1,fun _=>by omega⟩
     ·split at h
      ·obtain⟨⟨y,s⟩,g,d⟩:=zk h
       have c:=zy r
       have:=c.length_le
       have b:=ih _ _ _ _ _ _ _ (i.suf c) g
       have e:=ih _ _ _ _ _ _ _ ((i.suf c).suf b.1) d
       exact⟨(e.1.trans b.1).trans c,fun _=>by omega⟩
      ·cases h
       exact⟨List.suffix_refl _,fun _=>by omega⟩
def rk (k:Nat):Nat:=if k<5 then 7-k else if k=5 then 2 else if k=7 then 8 else 1
theorem xV (f:Nat):∀k o a p r,Gd r->k<=7\/10<=k/\k<15->10*r.length+rk k<=f->ex f k o a p r≠out:=by
 induction f with
 |zero=>intro k o a p r _ _ h;unfold rk at h;split at h<;>(try split at h)<;>(try split at h)<;>omega
 |succ f ih =>
  intro k o a p r b B g
  by_cases x:k=6
  ·subst x
   rw[ex6]
   simp only[rk,show ¬(6<5) by omega,if_false,show ¬(6=5) by omega,show ¬(6=7) by omega]at g
   refine zv (refT_ne r) ?_
   rintro⟨⟨m,n⟩,A⟩ h1
   have c:=uL h1
   have w:=b.suf c.1
   have s:=zy A
   have:=s.length_le
   simp only[behind]
   refine zI (fun _=>zv (ih _ _ _ _ _ (w.suf s) (by omega) (by simp only[rk,show 0<5 by omega,if_true];omega)) fun v _=>zv (zJ _ _) fun u _=>zZ _) (fun _=>zI (fun _=>zI (fun _=>zZ _) (fun _=>?_)) (fun _=>zZ _))
   exact zv (ih _ _ _ _ _ (w.suf s) (by omega) (by simp only[rk,show ¬(7<5) by omega,if_false,show ¬(7=5) by omega,if_true];omega)) fun v _=>zv (zJ _ _) fun u _=>zZ _
  ·rw[ex]
   refine zI (fun l=>?_) (fun l=>zI (fun i=>?_) (fun i=>?_))
   ·simp only[rk,l,if_true]at g
    refine zv (ih _ _ _ _ _ b (by omega) (by unfold rk;split<;>(try split)<;>omega)) ?_
    rintro⟨y,t⟩ h1
    have c:=yI f _ _ _ _ _ _ _ b h1
    have:=c.2 (by omega)
    exact ih _ _ _ _ _ (b.suf c.1) (by omega) (by simp only[rk,show ¬(10+k<5) by omega,if_false,show ¬(10+k=5) by omega,show ¬(10+k=7) by omega];omega)
   ·subst i
    simp only[rk,show ¬(5<5) by omega,if_false,if_true]at g
    refine zI (fun _=>ji (by simp)) (fun _=>zI (fun _=>zv (vL _ _) fun u _=>zZ _) (fun _=>zI (fun d=>?_) (fun _=>zI (fun d=>?_) (fun _=>?_))))
    ·have q:(stp r).length<r.length:=by rcases d with d|d<;>exact yC b (by decide) d
     exact zv (ih _ _ _ _ _ (b.suf (zy r)) (by omega) (by simp only[rk,show ¬(5<5) by omega,if_false,if_true];omega)) fun u _=>zZ _
    ·have q:(stp r).length<r.length:=yC b (by decide) d
     exact zv (ih _ _ _ _ _ (b.suf (zy r)) (by omega) (by simp only[rk,show 0<5 by omega,if_true];omega)) fun u _=>zv (zJ _ _) fun u _=>zZ _
    ·exact ih _ _ _ _ _ b (by omega) (by simp only[rk,show ¬(6<5) by omega,if_false,show ¬(6=5) by omega,show ¬(6=7) by omega];omega)
   ·rw[if_neg x]
    refine zI (fun j=>?_) (fun j=>zI (fun q=>?_) (fun _=>zZ _))
    ·subst j
     simp only[rk,show ¬(7<5) by omega,if_false,show ¬(7=5) by omega,if_true]at g
     refine zv (ih _ _ _ _ _ b (by omega) (by simp only[rk,show 0<5 by omega,if_true];omega)) ?_
     rintro⟨y,t⟩ h1
     have c:=yI f _ _ _ _ _ _ _ b h1
     have:=c.2 (by omega)
     refine zI (fun z=>?_) (fun _=>zZ _)
     have:=yC (b.suf c.1) (by decide) z
     exact zv (ih _ _ _ _ _ ((b.suf c.1).suf (zy t)) (by omega) (by simp only[rk,show ¬(7<5) by omega,if_false,show ¬(7=5) by omega,if_true];omega)) fun u _=>zZ _
    ·simp only[rk,l,if_false,i,j]at g
     have C:(stp r).length<r.length:=stp_lt b (by intro e;rw[e,lvl_nil]at q;omega)
     refine zv (ih _ _ _ _ _ (b.suf (zy r)) (by omega) (by unfold rk;split<;>(try split)<;>omega)) ?_
     rintro⟨y,t⟩ h1
     have c:=yI f _ _ _ _ _ _ _ (b.suf (zy r)) h1
     have:=c.1.length_le
     exact ih _ _ _ _ _ ((b.suf (zy r)).suf c.1) (by omega) (by simp only[rk,l,if_false,i,j];omega)
theorem xH (f:Nat):∀k b r x E,Gd r->sx f k b r=.ok (x,E)->E <:+ r/\(2<=k->E.length<r.length):=by
 induction f with
 |zero=>intro k b r x E _ h;rw[sx]at h;cases h
 |succ f ih =>
  intro k b r x E o h
  have w:=zy r
  have N:=w.length_le
  have z:=o.suf w
  rw[sx]at h
  split at h
  ·split at h
   ·cases h
   ·have a:=ih _ _ _ _ _ o h
    exact⟨a.1,fun _=>by omega⟩
  ·split at h
   ·split at h
    ·cases h;exact⟨List.suffix_refl _,fun _=>by omega⟩
    ·obtain⟨⟨s,F⟩,n,d⟩:=zk h
     have a:=ih _ _ _ _ _ o n
     obtain⟨⟨l,A⟩,i,j⟩:=zk d
     have c:=ih _ _ _ _ _ (o.suf a.1) i
     cases j
     exact⟨c.1.trans a.1,fun _=>by omega⟩
   ·split at h
    ·split at h
     ·obtain⟨⟨x1,F⟩,n,d⟩:=zk h
      have a:=yI f _ _ _ _ _ _ _ z n
      have H:=a.1.length_le
      obtain⟨A,i,j⟩:=zk d
      have c:=yl (z.suf a.1) (by decide) i
      cases j
      exact⟨(c.1.trans a.1).trans w,fun _=>by omega⟩
     ·split at h
      ·obtain⟨⟨x1,F⟩,n,d⟩:=zk h
       have a:=yI f _ _ _ _ _ _ _ z n
       have H:=a.1.length_le
       obtain⟨A,i,j⟩:=zk d
       have B:=z.suf a.1
       have c:=yl B (by decide) i
       obtain⟨⟨l,I⟩,t,m⟩:=zk j
       have q:=B.suf c.1
       have g:=ih _ _ _ _ _ q t
       have J:=g.1.length_le
       have C:=q.suf g.1
       obtain⟨G,u,v⟩:=zk m
       have p:=yl C (by decide) u
       obtain⟨P,M,K⟩:=zk v
       have D:=yl (C.suf p.1) (by decide) M
       cases K
       exact⟨((((D.1.trans p.1).trans g.1).trans c.1).trans a.1).trans w,fun _=>by omega⟩
      ·split at h
       ·obtain⟨⟨s,F⟩,n,d⟩:=zk h
        have a:=ih _ _ _ _ _ o n
        have H:=a.1.length_le
        obtain⟨A,i,j⟩:=zk d
        have c:=yl (o.suf a.1) (by decide) i
        obtain⟨I,t,m⟩:=zk j
        have g:=yl ((o.suf a.1).suf c.1) (by decide) t
        cases m
        exact⟨(g.1.trans c.1).trans a.1,fun _=>by omega⟩
       ·obtain⟨⟨x1,F⟩,n,d⟩:=zk h
        have a:=yI f _ _ _ _ _ _ _ o n
        have H:=a.2 (by omega)
        simp only at d
        split at d
        ·obtain⟨A,i,j⟩:=zk d
         have c:=yl (o.suf a.1) (by decide) i
         cases j
         exact⟨c.1.trans a.1,fun _=>by omega⟩
        ·split at d
         ·obtain⟨A,i,j⟩:=zk d
          have c:=yl (o.suf a.1) (by decide) i
          have q:=(o.suf a.1).suf c.1
          obtain⟨⟨y,I⟩,t,m⟩:=zk j
          have g:=yI f _ _ _ _ _ _ _ q t
          have J:=g.1.length_le
          obtain⟨G,u,v⟩:=zk m
          have p:=yl (q.suf g.1) (by decide) u
          cases v
          exact⟨((p.1.trans g.1).trans c.1).trans a.1,fun _=>by omega⟩
         ·cases d
    ·obtain⟨⟨x1,F⟩,n,d⟩:=zk h
     have a:=yI f _ _ _ _ _ _ _ z n
     have H:=a.1.length_le
     obtain⟨A,i,j⟩:=zk d
     have B:=z.suf a.1
     have c:=yl B (by decide) i
     obtain⟨⟨l,I⟩,t,m⟩:=zk j
     have q:=B.suf c.1
     have g:=ih _ _ _ _ _ q t
     have J:=g.1.length_le
     have C:=q.suf g.1
     simp only at m
     split at m
     ·obtain⟨⟨e,G⟩,u,v⟩:=zk m
      have p:=ih _ _ _ _ _ C u
      have L:=p.1.length_le
      cases v
      exact⟨(((p.1.trans g.1).trans c.1).trans a.1).trans w,fun _=>show G.length<r.length by omega⟩
     ·split at m
      ·obtain⟨⟨e,G⟩,u,v⟩:=zk m
       have D:=zy I
       have O:=D.length_le
       have p:=ih _ _ _ _ _ (C.suf D) u
       have L:=p.1.length_le
       cases v
       exact⟨((((p.1.trans D).trans g.1).trans c.1).trans a.1).trans w,fun _=>show G.length<r.length by omega⟩
      ·cases m
       exact⟨((g.1.trans c.1).trans a.1).trans w,fun _=>by omega⟩
theorem sx_fuel (f:Nat):∀k b r,Gd r->10*r.length+6-k<=f->10*r.length+2<=f->(3<=k->tx r≠[])->sx f k b r≠out:=by
 induction f with
 |zero=>intro k b r _ _ h _;omega
 |succ f ih =>
  intro k b r a H D g
  have x:=zy r
  have E:=x.length_le
  have e:=a.suf x
  rw[sx]
  refine zI (fun z=>zI (fun _=>ji (by simp)) (fun _=>ih _ _ _ a (by omega) (by omega) (by omega))) (fun z=>zI (fun A=>zI (fun _=>zZ _) (fun _=>?_)) (fun A=>zI (fun w=>?_) (fun w=>?_)))
  ·refine zv (ih _ _ _ a (by omega) (by omega) (by omega)) ?_
   rintro⟨s,p⟩ h1
   have c:=xH f _ _ _ _ _ a h1
   have:=c.2 (by omega)
   exact zv (ih _ _ _ (a.suf c.1) (by omega) (by omega) (by omega)) fun u _=>zZ _
  ·subst w
   have t:(stp r).length<r.length->ex f 0 0 0 [] (stp r)≠out:=fun j=>xV f 0 0 0 [] (stp r) e (by omega) (by simp only[rk,show 0<5 by omega,if_true];omega)
   refine zI (fun d=>?_) (fun _=>zI (fun d=>?_) (fun _=>zI (fun d=>?_) (fun _=>?_)))
   ·have j:(stp r).length<r.length:=by rcases d with d|d<;>exact yC a (by decide) d
    exact zv (t j) fun u _=>zv (zJ _ _) fun u _=>zZ _
   ·have j:(stp r).length<r.length:=yC a (by decide) d
    refine zv (t j) ?_
    rintro⟨x1,p⟩ h1
    have c:=yI f _ _ _ _ _ _ _ e h1
    have v:=c.1.length_le
    refine zv (zJ _ _) ?_
    intro q g
    have i:=yl (e.suf c.1) (by decide) g
    exact zv (ih _ _ _ ((e.suf c.1).suf i.1) (by omega) (by omega) (by omega)) fun u _=>zv (zJ _ _) fun u _=>zv (zJ _ _) fun u _=>zZ _
   ·exact zv (ih _ _ _ a (by omega) (by have:=yC a (by decide) d;omega) (by intro _;rw[d];decide)) fun u _=>zv (zJ _ _) fun u _=>zv (zJ _ _) fun u _=>zZ _
   ·refine zv (xV f 6 0 0 [] r a (by omega) (by simp only[rk,show ¬(6<5) by omega,if_false,show ¬(6=5) by omega,show ¬(6=7) by omega];omega)) ?_
    rintro⟨x1,p⟩ h1
    have c:=yI f _ _ _ _ _ _ _ a h1
    have v:=c.2 (by omega)
    refine zI (fun _=>zv (zJ _ _) fun u _=>zZ _) (fun _=>zI (fun _=>zv (zJ _ _) ?_) (fun _=>ji (by simp)))
    intro q g
    have i:=yl (a.suf c.1) (by decide) g
    exact zv (xV f 0 0 0 [] q ((a.suf c.1).suf i.1) (by omega) (by simp only[rk,show 0<5 by omega,if_true];omega)) fun u _=>zv (zJ _ _) fun u _=>zZ _
  ·have j:(stp r).length<r.length:=stp_lt a (g (by omega))
   ·refine zv (xV f 0 0 0 [] (stp r) e (by omega) (by simp only[rk,show 0<5 by omega,if_true];omega)) ?_
    rintro⟨x1,p⟩ h1
    have c:=yI f _ _ _ _ _ _ _ e h1
    have v:=c.1.length_le
    refine zv (zJ _ _) ?_
    intro q g
    have m:=e.suf c.1
    have i:=yl m (by decide) g
    refine zv (ih _ _ _ (m.suf i.1) (by omega) (by omega) (by omega)) ?_
    rintro⟨l,C⟩ h5
    have n:=m.suf i.1
    have o:=xH f _ _ _ _ _ n h5
    have F:=o.1.length_le
    have y:=zy C
    have G:=y.length_le
    exact zI (fun B=>zv (ih _ _ _ (n.suf o.1) (by omega) (by omega) (by intro _;rw[B];decide)) fun u _=>zZ _) (fun _=>zI (fun _=>zv (ih _ _ _ ((n.suf o.1).suf y) (by omega) (by omega) (by omega)) fun u _=>zZ _) (fun _=>zZ _))
theorem yM (f:Nat):∀d c r l b,names f d c r=.ok (l,b)->b <:+ r:=by
 induction f with
 |zero=>intro d c r l b h;cases h
 |succ f ih =>
  intro d c r l b h
  rw[names]at h
  split at h
  ·cases h
  ·obtain⟨⟨n,m⟩,g,a⟩:=zk h
   have e:=kC g
   simp only at a
   split at a
   ·obtain⟨⟨o,p⟩,i,j⟩:=zk a
    have k:=ih _ _ _ _ _ i
    cases j
    exact(k.trans (zy m)).trans e.1
   ·cases a
    exact e.1
theorem xO (f:Nat):∀b a r,1<=f->a+1<=f+b->names f b a r≠out:=by
 induction f with
 |zero=>intro b a r h;omega
 |succ f ih =>
  intro b a r _ c
  rw[names]
  refine zI (fun _=>ji (by simp)) (fun d=>zv (jc r) ?_)
  rintro⟨n,e⟩ _
  exact zI (fun _=>zv (ih _ _ _ (by omega) (by omega)) fun u _=>zZ _) (fun _=>zZ _)
theorem if_suf {r a:List Tok}{s:Bs}(h:a=if tx r=s then stp r else r):a <:+ r:=by
 subst h
 split
 ·exact zy r
 ·exact List.suffix_refl _
theorem qf (r:List Tok)(s:Bs):(if tx r=s then stp r else r) <:+ r:=if_suf rfl
theorem zN {s:Bs}{r a:List Tok}(h:want s r=.ok a):a <:+ r:=by obtain⟨_,rfl⟩:=uB h;exact zy r
theorem global_suf {r f:List Tok}{g:G}(h:global r=.ok (g,f)):f <:+ r:=by
 unfold global at h
 obtain⟨⟨n,u⟩,j,l⟩:=zk h
 have q:=(kC j).1
 obtain⟨v,m,a⟩:=zk l
 have e:=(zN m).trans ((qf u mStar).trans q)
 simp only at a
 split at a
 ·obtain⟨w,c,d⟩:=zk a
  cases d
  exact(zN c).trans ((zy v).trans e)
 ·obtain⟨w,c,d⟩:=zk a
  have s:=(zN c).trans e
  obtain⟨⟨k,x⟩,o,b⟩:=zk d
  have t:=(vM o).1.trans s
  simp only at b
  split at b
  ·cases b
  ·obtain⟨y,p,i⟩:=zk b
   cases i
   exact(zN p).trans t
theorem global_ne (r:List Tok):global r≠out:=by
 unfold global
 refine zv (jc r) fun v _=>zv (zJ _ _) fun a _=>zI (fun _=>zv (zJ _ _) fun _ _=>zZ _) (fun _=>zv (zJ _ _) fun _ _=>zv (vL _ _) fun _ _=>?_)
 exact zI (fun _=>ji (by simp)) (fun _=>zv (zJ _ _) fun _ _=>zZ _)
theorem qg (f:Nat):∀b r l a,globals f b r=.ok (l,a)->a <:+ r:=by
 induction f with
 |zero=>intro b r l a h;cases h
 |succ f ih =>
  intro b r l a h
  rw[globals]at h
  split at h
  ·split at h
   ·cases h
   ·obtain⟨⟨g,k⟩,c,d⟩:=zk h
    obtain⟨⟨j,m⟩,e,i⟩:=zk d
    cases i
    exact(ih _ _ _ _ e).trans ((global_suf c).trans (zy r))
  ·cases h
   exact List.suffix_refl _
theorem globals_ne (f:Nat):∀a r,12<=f+a->1<=f->a<=10->globals f a r≠out:=by
 induction f with
 |zero=>intro a r _ h;omega
 |succ f ih =>
  intro a r b _ c
  rw[globals]
  refine zI (fun _=>zI (fun _=>ji (by simp)) (fun d=>zv (global_ne _) fun v _=>zv (ih _ _ (by omega) (by omega) (by omega)) fun _ _=>zZ _)) (fun _=>zZ _)
theorem proc_suf {f:Nat}{r m:List Tok}{p:Pr}(H:Gd r)(h:proc f r=.ok (p,m)):m <:+ r:=by
 unfold proc at h
 obtain⟨W,z,A⟩:=zk h
 have I:=zN z
 obtain⟨⟨n,M⟩,B,C⟩:=zk A
 have J:=(kC B).1.trans I
 obtain⟨X,D,E⟩:=zk C
 have j:=(zN D).trans ((qf M mStar).trans J)
 obtain⟨⟨ps,N⟩,i,F⟩:=zk E
 have K:N <:+ r:=by
  split at i
  ·cases i;exact j
  ·exact(yM _ _ _ _ _ _ i).trans j
 obtain⟨Y,G,o⟩:=zk F
 obtain⟨O,q,s⟩:=zk o
 have k:=(zN q).trans ((zN G).trans K)
 obtain⟨⟨vs,P⟩,a,t⟩:=zk s
 have L:P <:+ r:=by
  split at a
  ·obtain⟨⟨V,U⟩,c,d⟩:=zk a
   obtain⟨Q,e,g⟩:=zk d
   cases g
   exact(zN e).trans ((yM _ _ _ _ _ _ c).trans ((zy O).trans k))
  ·cases a;exact k
 obtain⟨Q,c,d⟩:=zk t
 have l:=(zN c).trans L
 obtain⟨⟨b,R⟩,e,g⟩:=zk d
 have y:=(xH f _ _ _ _ _ (H.suf l) e).1.trans l
 obtain⟨S,u,v⟩:=zk g
 obtain⟨T,w,x⟩:=zk v
 cases x
 exact(zN w).trans ((zN u).trans y)
theorem proc_ne {f:Nat}{r:List Tok}(m:Gd r)(z:10*r.length+6<=f):proc f r≠out:=by
 unfold proc
 refine zv (zJ _ _) fun A j=>zv (jc _) ?_
 rintro⟨n,s⟩ h3
 have o:=(kC h3).1.trans (zN j)
 refine zv (zJ _ _) fun B k=>?_
 have b:=(zN k).trans ((qf s mStar).trans o)
 refine zv (zI (fun _=>zZ _) (fun _=>xO _ _ _ _ (by omega) (by omega))) ?_
 rintro⟨ps,t⟩ h7
 have p:t <:+ r:=by
  split at h7
  ·cases h7;exact b
  ·exact(yM _ _ _ _ _ _ h7).trans b
 refine zv (zJ _ _) fun C l=>zv (zJ _ _) fun u e=>?_
 have c:=(zN e).trans ((zN l).trans p)
 refine zv (zI (fun _=>zv (xO _ _ _ _ (by omega) (by omega)) fun _ _=>zv (zJ _ _) fun _ _=>zZ _) (fun _=>zZ _)) ?_
 rintro⟨vs,v⟩ h13
 have q:v <:+ r:=by
  split at h13
  ·obtain⟨⟨y,x⟩,a,g⟩:=zk h13
   obtain⟨w,h,i⟩:=zk g
   cases i
   exact(zN h).trans ((yM _ _ _ _ _ _ a).trans ((zy u).trans c))
  ·cases h13;exact c
 refine zv (zJ _ _) fun w a=>?_
 have d:=(zN a).trans q
 have:=d.length_le
 exact zv (sx_fuel f _ _ _ (m.suf d) (by omega) (by omega) (by omega)) fun _ _=>zv (zJ _ _) fun _ _=>zv (zJ _ _) fun _ _=>zZ _
theorem procs_suf (f:Nat):∀g b r l a,Gd r->procs f g b r=.ok (l,a)->a <:+ r:=by
 induction f with
 |zero=>intro g b r l a _ h;cases h
 |succ f ih =>
  intro g b r l a c h
  rw[procs]at h
  split at h
  ·split at h
   ·cases h
   ·obtain⟨⟨p,n⟩,e,i⟩:=zk h
    have d:=proc_suf c e
    obtain⟨⟨m,o⟩,j,k⟩:=zk i
    cases k
    exact(ih _ _ _ _ _ (c.suf d) j).trans d
  ·cases h
   exact List.suffix_refl _
theorem procs_ne (f:Nat):∀g a r,Gd r->10*r.length+6<=g->12<=f+a->1<=f->a<=10->procs f g a r≠out:=by
 induction f with
 |zero=>intro g a r _ _ _ h;omega
 |succ f ih =>
  intro g a r b d e _ i
  rw[procs]
  refine zI (fun _=>zI (fun _=>ji (by simp)) (fun j=>zv (proc_ne b d) ?_)) (fun _=>zZ _)
  rintro⟨p,k⟩ h3
  have c:=proc_suf b h3
  have:=c.length_le
  exact zv (ih _ _ _ (b.suf c) (by omega) (by omega) (by omega) (by omega)) fun _ _=>zZ _
theorem module_ne {f:Nat}{r:List Tok}(b:Gd r)(w:10*r.length+6<=f):module f r≠out:=by
 unfold module
 refine zv (zJ _ _) fun x k=>zv (jc _) ?_
 rintro⟨n,y⟩ h3
 have m:=(kC h3).1.trans (zN k)
 refine zv (zJ _ _) fun q l=>?_
 have c:=(zN l).trans m
 refine zv (zI (fun _=>zv (xO _ _ _ _ (by omega) (by omega)) fun _ _=>zv (zJ _ _) fun _ _=>zZ _) (fun _=>zZ _)) ?_
 rintro⟨vs,s⟩ h7
 have o:s <:+ r:=by
  split at h7
  ·obtain⟨⟨u,t⟩,g,h⟩:=zk h7
   obtain⟨C,i,j⟩:=zk h
   cases j
   exact(zN i).trans ((yM _ _ _ _ _ _ g).trans ((zy q).trans c))
  ·cases h7;exact c
 refine zv (globals_ne _ _ _ (by omega) (by omega) (by omega)) ?_
 rintro⟨v,z⟩ h9
 have a:=(qg _ _ _ _ _ h9).trans o
 have:=a.length_le
 refine zv (procs_ne _ _ _ _ (b.suf a) (by omega) (by omega) (by omega) (by omega)) ?_
 rintro⟨ps,A⟩ h11
 have p:=(procs_suf _ _ _ _ _ _ (b.suf a) h11).trans a
 refine zv (zJ _ _) fun B e=>?_
 have d:=(zN e).trans p
 have:=d.length_le
 refine zv (sx_fuel f _ _ _ (b.suf d) (by omega) (by omega) (by omega)) fun _ _=>zv (zJ _ _) fun _ _=>zv (zJ _ _) fun _ _=>zI (fun _=>zZ _) (fun _=>ji (by simp))
end Tp
