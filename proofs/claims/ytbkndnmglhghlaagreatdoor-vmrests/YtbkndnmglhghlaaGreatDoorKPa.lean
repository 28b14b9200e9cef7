set_option maxRecDepth 100000
set_option maxHeartbeats 4000000

namespace Tp
variable {f g k m:Nat}{c:Prop}{α:Type}
abbrev Bs:=List UInt8
structure Tok where
 kind:Nat
 pos:Nat
 text:Bs
structure X where
 code:Nat
 pos:Nat
 n:Nat
 mod:Bs
 name:Bs
 op:Bs
 left:List X
 right:List X
 args:List X
structure S where
 code:Nat
 pos:Nat
 name:Bs
 index:List X
 value:List X
 thn:List S
 els:List S
structure G where
 name:Bs
 pos:Nat
 len:Nat
 seen:Bool
structure Pr where
 name:Bs
 pos:Nat
 seen:Bool
 params:List Bs
 vars:List Bs
 body:List S
structure M where
 name:Bs
 imports:List Bs
 vars:List G
 procs:List Pr
 body:List S
abbrev Er:=Nat×Nat
def wModule:Bs:=[109,111,100,117,108,101]
def wImport:Bs:=[105,109,112,111,114,116]
def wVar:Bs:=[118,97,114]
def wProc:Bs:=[112,114,111,99]
def wBegin:Bs:=[98,101,103,105,110]
def wEnd:Bs:=[101,110,100]
def wInt:Bs:=[105,110,116]
def wArray:Bs:=[97,114,114,97,121]
def wReturn:Bs:=[114,101,116,117,114,110]
def wWrite:Bs:=[119,114,105,116,101]
def wWhile:Bs:=[119,104,105,108,101]
def wDo:Bs:=[100,111]
def wIf:Bs:=[105,102]
def wThen:Bs:=[116,104,101,110]
def wElsif:Bs:=[101,108,115,105,102]
def wElse:Bs:=[101,108,115,101]
def wOr:Bs:=[111,114]
def wAnd:Bs:=[97,110,100]
def wNot:Bs:=[110,111,116]
def wDiv:Bs:=[100,105,118]
def wMod:Bs:=[109,111,100]
def mSet:Bs:=[58,61]
def mLe:Bs:=[60,61]
def mGe:Bs:=[62,61]
def mNe:Bs:=[35]
def mEq:Bs:=[61]
def mLt:Bs:=[60]
def mGt:Bs:=[62]
def mPlus:Bs:=[43]
def mMinus:Bs:=[45]
def mStar:Bs:=[42]
def mLp:Bs:=[40]
def mRp:Bs:=[41]
def mLb:Bs:=[91]
def mRb:Bs:=[93]
def mComma:Bs:=[44]
def mSemi:Bs:=[59]
def mColon:Bs:=[58]
def mDot:Bs:=[46]
def kept:List Bs:=[wModule,wImport,wVar,wProc,wBegin,wEnd,wInt,wArray,wReturn,wWrite,wWhile,wDo,wIf,wThen,wElsif,wElse,wOr,wAnd,wNot,wDiv,wMod]
def marks:List Bs:=[mSet,mLe,mGe,mNe,mEq,mLt,mGt,mPlus,mMinus,mStar,mLp,mRp,mLb,mRb,mComma,mSemi,mColon,mDot]
def letter (c:UInt8):Bool:=decide (97<=c.toNat/\c.toNat<=122)
def digit (c:UInt8):Bool:=decide (48<=c.toNat/\c.toNat<=57)
def ld (c:UInt8):Bool:=letter c || digit c
def blank (c:UInt8):Bool:=c==32 || c==10
def cut:Bs->Option (Nat×Nat)
 |[]=>none
 |c :: l=>if letter c then some (1,((c :: l).takeWhile ld).length)
  else if digit c then some (2,((c :: l).takeWhile digit).length)
  else (marks.find? (fun m=>m.isPrefixOf (c :: l))).map (fun m=>(3,m.length))
def scan:Nat->Nat->Nat->Bs->Except Er (List Tok)
 | 0,_,_,_=>.error (99,0)
 |f+1,cnt,pos,l =>
  match l with
  |[]=>.ok [⟨0,pos,[]⟩]
  |c :: t=>if blank c then scan f cnt (pos+1) t else
   match cut (c :: t) with
   |none=>.error (3,pos)
   |some (kd,n)=>if cnt=600 then .error (4,pos) else
    match scan f (cnt+1) (pos+n) ((c :: t).drop n) with
    | .error e=>.error e
    | .ok ts=>.ok (⟨kd,pos,(c :: t).take n⟩ :: ts)
def hd (r:List Tok):Tok:=r.headD ⟨0,0,[]⟩
def tx (r:List Tok):Bs:=(hd r).text
def at' (r:List Tok):Nat:=(hd r).pos
def stp (r:List Tok):List Tok:=if (hd r).kind=0 then r else r.tail
def want (s:Bs) (r:List Tok):Except Er (List Tok):=if tx r=s then .ok (stp r) else .error (3,at' r)
def name (r:List Tok):Except Er (Bs×List Tok) :=
 if (hd r).kind≠1\/tx r∈kept then .error (3,at' r)
 else if 10<(tx r).length then .error (4,at' r) else .ok (tx r,stp r)
def names:Nat->Nat->Nat->List Tok->Except Er ((List Bs)×List Tok)
 | 0,_,_,r=>.error (99,at' r)
 |f+1,had,most,r=>if most<=had then .error (4,at' r) else do
  let (n,r1) <- name r
  if tx r1=mComma then do
   let (l,r2) <- names f (had+1) most (stp r1)
   .ok (n :: l,r2)
  else .ok ([n],r1)
def val (l:Bs):Nat:=l.foldl (fun a c=>a*10+(c.toNat-48)) 0
def number (most:Nat) (r:List Tok):Except Er (Nat×List Tok) :=
 if (hd r).kind≠2 then .error (3,at' r)
 else if most<val (tx r) then .error (4,at' r) else .ok (val (tx r),stp r)
def lvl (op:Bs):Nat :=
 if op=wOr then 0 else if op=wAnd then 1
 else if op=mEq\/op=mNe\/op=mLt\/op=mLe\/op=mGt\/op=mGe then 2
 else if op=mPlus\/op=mMinus then 3
 else if op=mStar\/op=wDiv\/op=wMod then 4 else 5
def top:Nat:=9223372036854775807
def ex:Nat->Nat->Nat->Nat->List X->List Tok->Except Er ((List X)×List Tok)
 | 0,_,_,_,_,_=>.error (99,0)
 |f+1,k,ones,a,acc,r =>
  if k<5 then do
   let (x,r1) <- ex f (k+1) ones 0 [] r
   ex f (10+k) ones (at' r) x r1
  else if k=5 then
   if 10<ones then .error (4,at' r)
   else if (hd r).kind=2 then do
    let (n,r1) <- number top r
    .ok ([⟨1,at' r,n,[],[],[],[],[],[]⟩],r1)
   else if tx r=mMinus\/tx r=wNot then do
    let (x,r1) <- ex f 5 (ones+1) 0 [] (stp r)
    .ok ([⟨4,at' r,0,[],[],tx r,x,[],[]⟩],r1)
   else if tx r=mLp then do
    let (x,r1) <- ex f 0 (ones+1) 0 [] (stp r)
    let r2 <- want mRp r1
    .ok (x,r2)
   else ex f 6 ones 0 [] r
  else if k=6 then do
   let (n1,r1) <- name r
   let ((m,n),r2) <- (if tx r1=mDot then do
     let (n2,r2) <- name (stp r1)
     .ok ((n1,n2),r2)
    else .ok (([],n1),r1):Except Er ((Bs×Bs)×List Tok))
   if tx r2=mLb then do
    let (x,r3) <- ex f 0 (ones+1) 0 [] (stp r2)
    let r4 <- want mRb r3
    .ok ([⟨3,at' r,0,m,n,[],x,[],[]⟩],r4)
   else if tx r2=mLp then
    if tx (stp r2)=mRp then .ok ([⟨6,at' r,0,m,n,[],[],[],[]⟩],stp (stp r2))
    else do
     let (l,r3) <- ex f 7 ones 0 [] (stp r2)
     let r4 <- want mRp r3
     .ok ([⟨6,at' r,0,m,n,[],[],[],l⟩],r4)
   else .ok ([⟨2,at' r,0,m,n,[],[],[],[]⟩],r2)
  else if k=7 then do
   let (x,r1) <- ex f 0 (ones+1) 0 [] r
   if tx r1=mComma then do
    let (l,r2) <- ex f 7 ones 0 [] (stp r1)
    .ok (x++l,r2)
   else .ok (x,r1)
  else if lvl (tx r)=k-10 then do
   let (y,r1) <- ex f (k-10+1) ones 0 [] (stp r)
   ex f k ones a [⟨5,a,0,[],[],tx r,acc,y,[]⟩] r1
  else .ok (acc,r)
def codeOf (l:List X):Nat:=match l with|x :: _=>x.code|[]=>0
def modOf (l:List X):Bs:=match l with|x :: _=>x.mod|[]=>[]
def nameOf (l:List X):Bs:=match l with|x :: _=>x.name|[]=>[]
def leftOf (l:List X):List X:=match l with|x :: _=>x.left|[]=>[]
def sx:Nat->Nat->Nat->List Tok->Except Er ((List S)×List Tok)
 | 0,_,_,_=>.error (99,0)
 |f+1,k,blocks,r =>
  if k=0 then if 10<blocks then .error (4,at' r) else sx f 1 blocks r
  else if k=1 then
   if tx r=wEnd\/tx r=wElsif\/tx r=wElse then .ok ([],r) else do
    let (s,r1) <- sx f 2 blocks r
    let (l,r2) <- sx f 1 blocks r1
    .ok (s++l,r2)
  else if k=2 then
   if tx r=wReturn\/tx r=wWrite then do
    let (x,r1) <- ex f 0 0 0 [] (stp r)
    let r2 <- want mSemi r1
    .ok ([⟨if tx r=wReturn then 4 else 5,at' r,[],[],x,[],[]⟩],r2)
   else if tx r=wWhile then do
    let (x,r1) <- ex f 0 0 0 [] (stp r)
    let r2 <- want wDo r1
    let (l,r3) <- sx f 0 (blocks+1) r2
    let r4 <- want wEnd r3
    let r5 <- want mSemi r4
    .ok ([⟨3,at' r,[],[],x,l,[]⟩],r5)
   else if tx r=wIf then do
    let (s,r1) <- sx f 3 blocks r
    let r2 <- want wEnd r1
    let r3 <- want mSemi r2
    .ok (s,r3)
   else do
    let (x,r1) <- ex f 6 0 0 [] r
    if codeOf x=6 then do
     let r2 <- want mSemi r1
     .ok ([⟨6,at' r,[],[],x,[],[]⟩],r2)
    else if modOf x=[] then do
     let r2 <- want mSet r1
     let (y,r3) <- ex f 0 0 0 [] r2
     let r4 <- want mSemi r3
     .ok ([⟨1,at' r,nameOf x,leftOf x,y,[],[]⟩],r4)
    else .error (3,at' r1)
  else do
   let (x,r1) <- ex f 0 0 0 [] (stp r)
   let r2 <- want wThen r1
   let (l,r3) <- sx f 0 (blocks+1) r2
   if tx r3=wElsif then do
    let (e,r4) <- sx f 3 (blocks+1) r3
    .ok ([⟨2,at' r,[],[],x,l,e⟩],r4)
   else if tx r3=wElse then do
    let (e,r4) <- sx f 0 (blocks+1) (stp r3)
    .ok ([⟨2,at' r,[],[],x,l,e⟩],r4)
   else .ok ([⟨2,at' r,[],[],x,l,[]⟩],r3)
def global (r:List Tok):Except Er (G×List Tok):=do
 let (n,r1) <- name r
 let r2:=if tx r1=mStar then stp r1 else r1
 let r3 <- want mColon r2
 if tx r3=wInt then do
  let r4 <- want mSemi (stp r3)
  .ok (⟨n,at' r,0,tx r1==mStar⟩,r4)
 else do
  let r4 <- want wArray r3
  let (k,r5) <- number 30 r4
  if k=0 then .error (2,at' r5) else do
   let r6 <- want mSemi r5
   .ok (⟨n,at' r,k,tx r1==mStar⟩,r6)
def globals:Nat->Nat->List Tok->Except Er ((List G)×List Tok)
 | 0,_,r=>.error (99,at' r)
 |f+1,had,r=>if tx r=wVar then
   if had=10 then .error (4,at' (stp r)) else do
    let (g,r1) <- global (stp r)
    let (l,r2) <- globals f (had+1) r1
    .ok (g :: l,r2)
  else .ok ([],r)
def proc (f:Nat) (r:List Tok):Except Er (Pr×List Tok):=do
 let r1 <- want wProc r
 let (n,r2) <- name r1
 let r3:=if tx r2=mStar then stp r2 else r2
 let r4 <- want mLp r3
 let (ps,r5) <- (if tx r4=mRp then .ok ([],r4) else names 11 0 10 r4:Except Er ((List Bs)×List Tok))
 let r6 <- want mRp r5
 let r7 <- want mSemi r6
 let (vs,r8) <- (if tx r7=wVar then do
   let (vs,r8) <- names 11 ps.length 10 (stp r7)
   let r9 <- want mSemi r8
   .ok (vs,r9)
  else .ok ([],r7):Except Er ((List Bs)×List Tok))
 let r9 <- want wBegin r8
 let (b,r10) <- sx f 0 0 r9
 let r11 <- want wEnd r10
 let r12 <- want mSemi r11
 .ok (⟨n,at' r,tx r2==mStar,ps,vs,b⟩,r12)
def procs:Nat->Nat->Nat->List Tok->Except Er ((List Pr)×List Tok)
 | 0,_,_,r=>.error (99,at' r)
 |f+1,g,had,r=>if tx r=wProc then
   if had=10 then .error (4,at' r) else do
    let (p,r1) <- proc g r
    let (l,r2) <- procs f g (had+1) r1
    .ok (p :: l,r2)
  else .ok ([],r)
def module (f:Nat) (r:List Tok):Except Er M:=do
 let r1 <- want wModule r
 let (n,r2) <- name r1
 let r3 <- want mSemi r2
 let (is,r4) <- (if tx r3=wImport then do
   let (is,r4) <- names 7 0 6 (stp r3)
   let r5 <- want mSemi r4
   .ok (is,r5)
  else .ok ([],r3):Except Er ((List Bs)×List Tok))
 let (gs,r5) <- globals 12 0 r4
 let (ps,r6) <- procs 12 f 0 r5
 let r7 <- want wBegin r6
 let (b,r8) <- sx f 0 0 r7
 let r9 <- want wEnd r8
 let r10 <- want mDot r9
 if (hd r10).kind=0 then .ok ⟨n,is,gs,ps,b⟩ else .error (3,at' r10)
def parse (l:Bs):Except Er M:=do
 let ts <- scan (l.length+1) 0 0 l
 module (20*ts.length+20) ts
def dec (n:Nat):Bs:=if h:n<10 then [UInt8.ofNat (48+n)] else dec (n / 10)++[UInt8.ofNat (48+n % 10)]
def isLow (k:Nat):List X->Bool
 |x :: _=>x.code==5&&decide (lvl x.op<k)
 |[]=>false
abbrev out {α:Type}:Except Er α:=.error (99,0)
def Le {α:Type}(a b:Except Er α):Prop:=a=out\/b=a
theorem Le.refl (a:Except Er α):Le a a:=Or.inr rfl
theorem Le.bind {α β:Type}{a b:Except Er α}{g h:α->Except Er β}(c:Le a b)(d:∀v,Le (g v) (h v)):Le (a >>= g) (b >>= h):=by
 rcases c with rfl|rfl
 ·exact Or.inl rfl
 ·cases b with
  |error e=>exact Or.inr rfl
  |ok v=>exact d v
theorem Le.ite [Decidable c]{a b d e:Except Er α}(f:Le a d)(g:Le b e):Le (if c then a else b) (if c then d else e):=by
 split<;>assumption
theorem Le.trans {α:Type}{a b c:Except Er α}(d:Le a b)(e:Le b c):Le a c:=by
 rcases d with h|rfl
 ·exact Or.inl h
 ·exact e
theorem Le.eq {a b:Except Er α}(h:Le a b){x:Except Er α}(c:a=x)(d:x≠out):b=x:=by
 rcases h with h|rfl
 ·exact absurd (c.symm.trans h) d
 ·exact c
theorem jk (f:Nat):∀k b a c r,Le (ex f k b a c r) (ex (f+1) k b a c r):=by
 induction f with
 |zero=>intro k b a c r;exact Or.inl rfl
 |succ f ih =>
  intro k b a c r
  rw[ex,ex]
  refine Le.ite ?_ (Le.ite (Le.ite (Le.refl _) (Le.ite (Le.refl _) (Le.ite ?_ (Le.ite ?_ ?_)))) (Le.ite ?_ (Le.ite ?_ (Le.ite ?_ (Le.refl _)))))
  ·exact Le.bind (ih _ _ _ _ _) fun v=>ih _ _ _ _ _
  ·exact Le.bind (ih _ _ _ _ _) fun v=>Le.refl _
  ·exact Le.bind (ih _ _ _ _ _) fun v=>Le.refl _
  ·exact ih _ _ _ _ _
  ·refine Le.bind (Le.refl _) fun v=>?_
   refine Le.bind (Le.refl _) fun u=>?_
   refine Le.ite ?_ (Le.ite (Le.ite (Le.refl _) ?_) (Le.refl _))
   ·exact Le.bind (ih _ _ _ _ _) fun v=>Le.refl _
   ·exact Le.bind (ih _ _ _ _ _) fun v=>Le.refl _
  ·refine Le.bind (ih _ _ _ _ _) fun v=>?_
   exact Le.ite (Le.bind (ih _ _ _ _ _) fun v=>Le.refl _) (Le.refl _)
  ·exact Le.bind (ih _ _ _ _ _) fun v=>ih _ _ _ _ _
theorem ex_le (h:f<=g)(k b a:Nat)(c:List X)(r:List Tok):Le (ex f k b a c r) (ex g k b a c r):=by
 induction h with
 |refl=>exact Le.refl _
 |step _ ih=>exact ih.trans (jk _ _ _ _ _ _)
theorem sx_step (f:Nat):∀k b r,Le (sx f k b r) (sx (f+1) k b r):=by
 induction f with
 |zero=>intro k b r;exact Or.inl rfl
 |succ f ih =>
  intro k b r
  rw[sx,sx]
  refine Le.ite (Le.ite (Le.refl _) (ih _ _ _)) (Le.ite (Le.ite (Le.refl _) ?_) (Le.ite (Le.ite ?_ (Le.ite ?_ (Le.ite ?_ ?_))) ?_))
  ·exact Le.bind (ih _ _ _) fun v=>Le.bind (ih _ _ _) fun v=>Le.refl _
  ·exact Le.bind (jk _ _ _ _ _ _) fun v=>Le.refl _
  ·refine Le.bind (jk _ _ _ _ _ _) fun v=>Le.bind (Le.refl _) fun v=>Le.bind (ih _ _ _) fun v=>Le.refl _
  ·exact Le.bind (ih _ _ _) fun v=>Le.refl _
  ·refine Le.bind (jk _ _ _ _ _ _) fun v=>?_
   exact Le.ite (Le.refl _) (Le.ite (Le.bind (Le.refl _) fun v=>Le.bind (jk _ _ _ _ _ _) fun v=>Le.refl _) (Le.refl _))
  ·refine Le.bind (jk _ _ _ _ _ _) fun v=>Le.bind (Le.refl _) fun v=>Le.bind (ih _ _ _) fun v=>?_
   exact Le.ite (Le.bind (ih _ _ _) fun v=>Le.refl _) (Le.ite (Le.bind (ih _ _ _) fun v=>Le.refl _) (Le.refl _))
theorem sx_le (h:f<=g)(k b:Nat)(r:List Tok):Le (sx f k b r) (sx g k b r):=by
 induction h with
 |refl=>exact Le.refl _
 |step _ ih=>exact ih.trans (sx_step _ _ _ _)
theorem zs {α β:Type}{a:Except Er α}{g:α->Except Er β}{v:β}(h:(a >>= g)=.ok v):∃u,a=.ok u/\g u=.ok v:=by
 cases a with
 |error e=>cases h
 |ok u=>exact⟨u,rfl,h⟩
theorem zA {α β:Type}{a:Except Er α}{g:α->Except Er β}(b:a≠out)(c:∀u,a=.ok u->g u≠out):(a >>= g)≠out:=by
 cases a with
 |error e=>intro h;apply b;cases h;rfl
 |ok u=>exact c u rfl
theorem zI [Decidable c]{a b:Except Er α}(d:c->a≠out)(e:¬c->b≠out):(if c then a else b)≠out:=by
 split
 ·exact d ‹_›
 ·exact e ‹_›
theorem yd (v:α):(.ok v:Except Er α)≠out:=by intro h;cases h
theorem jl {e:Er}(h:e.1≠99):(.error e:Except Er α)≠out:=by intro k;injection k with k;subst k;exact h rfl
def Gd (r:List Tok):Prop:=∀t,t∈r->t.kind=0->t.text=[]
variable {a b r:List Tok}
theorem Gd.suf (h:Gd r)(k:a <:+ r):Gd a:=fun t b=>h t (k.subset b)
theorem zC (r:List Tok):stp r <:+ r:=by
 unfold stp
 split
 ·exact List.suffix_refl _
 ·exact List.tail_suffix _
theorem stp_lt (h:Gd r)(k:tx r≠[]):(stp r).length<r.length:=by
 cases r with
 |nil=>exact absurd rfl k
 |cons t l =>
  have:(hd (t :: l)).kind≠0:=fun e=>k (h t (by simp) e)
  simp[stp,this]
theorem stp_lt' (k:(hd r).kind≠0):(stp r).length<r.length:=by
 cases r with
 |nil=>exact absurd rfl k
 |cons t l=>simp[stp,k]
variable {n s:Bs}
theorem vR (h:want s r=.ok a):tx r=s/\a=stp r:=by
 unfold want at h
 split at h
 ·exact⟨‹_›,by cases h;rfl⟩
 ·cases h
theorem zJ (s:Bs)(r:List Tok):want s r≠out:=by
 unfold want;exact zI (fun _=>yd _) (fun _=>jl (by simp))
theorem name_ok' (h:name r=.ok (n,b)):(hd r).kind=1/\tx r ∉ kept/\(tx r).length<=10/\n=tx r/\b=stp r:=by
 unfold name at h
 split at h
 ·cases h
 ·rename_i a
  split at h
  ·cases h
  ·cases h
   rw[not_or]at a
   refine⟨by simpa using a.1,a.2,by omega,rfl,rfl⟩
theorem jh (r:List Tok):name r≠out:=by
 unfold name;exact zI (fun _=>jl (by simp)) (fun _=>zI (fun _=>jl (by simp)) (fun _=>yd _))
theorem kN (h:name r=.ok (n,a)):a <:+ r/\a.length<r.length:=by
 obtain⟨b,_,_,_,rfl⟩:=name_ok' h
 exact⟨zC r,stp_lt' (by omega)⟩
theorem jg {n:Nat}(h:number m r=.ok (n,a)):(hd r).kind=2/\n=val (tx r)/\n<=m/\a=stp r:=by
 unfold number at h
 split at h
 ·cases h
 ·rename_i b
  split at h
  ·cases h
  ·cases h
   exact⟨by simpa using b,rfl,by omega,rfl⟩
theorem vq (m:Nat)(r:List Tok):number m r≠out:=by
 unfold number;exact zI (fun _=>jl (by simp)) (fun _=>zI (fun _=>jl (by simp)) (fun _=>yd _))
theorem vt {n:Nat}(h:number m r=.ok (n,a)):a <:+ r/\a.length<r.length:=by
 obtain⟨b,_,_,rfl⟩:=jg h
 exact⟨zC r,stp_lt' (by omega)⟩
theorem yo (c:Gd r)(d:s≠[])(h:want s r=.ok a):a <:+ r/\a.length<r.length:=by
 obtain⟨b,rfl⟩:=vR h
 exact⟨zC r,stp_lt c (by rw[b];exact d)⟩
theorem yO (a:Gd r)(b:s≠[])(h:tx r=s):(stp r).length<r.length:=stp_lt a (by rw[h];exact b)
theorem lvl_nil:lvl []=5:=by decide
def refT (r:List Tok):Except Er ((Bs×Bs)×List Tok):=do
 let (n1,r1) <- name r
 (if tx r1=mDot then do
   let (n2,r2) <- name (stp r1)
   .ok ((n1,n2),r2)
  else .ok (([],n1),r1):Except Er ((Bs×Bs)×List Tok))
def behind (f ones a:Nat) (m n:Bs) (r2:List Tok):Except Er ((List X)×List Tok) :=
 if tx r2=mLb then do
  let (x,r3) <- ex f 0 (ones+1) 0 [] (stp r2)
  let r4 <- want mRb r3
  .ok ([⟨3,a,0,m,n,[],x,[],[]⟩],r4)
 else if tx r2=mLp then
  if tx (stp r2)=mRp then .ok ([⟨6,a,0,m,n,[],[],[],[]⟩],stp (stp r2))
  else do
   let (l,r3) <- ex f 7 ones 0 [] (stp r2)
   let r4 <- want mRp r3
   .ok ([⟨6,a,0,m,n,[],[],[],l⟩],r4)
 else .ok ([⟨2,a,0,m,n,[],[],[],[]⟩],r2)
theorem ex6 (f b a:Nat)(c:List X)(r:List Tok):ex (f+1) 6 b a c r=(do let ((m,n),r2) <- refT r;behind f b (at' r) m n r2):=by
 rw[ex]
 unfold refT behind
 simp only[show ¬(6<5) by omega,if_false,show ¬(6=5) by omega,if_true]
 cases name r with
 |error e=>rfl
 |ok v =>
  obtain⟨d,g⟩:=v
  simp only[bind,Except.bind]
theorem uf {v:Bs×Bs}(h:refT r=.ok (v,b)):b <:+ r/\b.length<r.length:=by
 unfold refT at h
 obtain⟨⟨m,j⟩,e,a⟩:=zs h
 have c:=kN e
 simp only at a
 split at a
 ·obtain⟨⟨n,k⟩,f,g⟩:=zs a
  have i:=kN f
  have d:=zC j
  have l:=d.length_le
  cases g
  exact⟨(i.1.trans d).trans c.1,show k.length<r.length by omega⟩
 ·cases a
  exact c
theorem refT_ne (r:List Tok):refT r≠out:=by
 unfold refT
 refine zA (jh r) fun v _=>?_
 exact zI (fun _=>zA (jh _) fun u _=>yd _) (fun _=>yd _)
theorem yY (f:Nat):∀k o a z r x u,Gd r->ex f k o a z r=.ok (x,u)->u <:+ r/\(k<=7->u.length<r.length):=by
 induction f with
 |zero=>intro k o a z r x u _ h;rw[ex]at h;cases h
 |succ f ih =>
  intro k o a z r x u i h
  by_cases t:k=6
  ·subst t
   rw[ex6]at h
   obtain⟨⟨⟨m,n⟩,v⟩,g,d⟩:=zs h
   have b:=uf g
   have w:=i.suf b.1
   simp only[behind]at d
   have c:=zC v
   have E:=c.length_le
   split at d
   ·obtain⟨⟨y,C⟩,j,p⟩:=zs d
    have e:=ih _ _ _ _ _ _ _ (w.suf c) j
    have B:=e.1.length_le
    obtain⟨D,A,t⟩:=zs p
    have q:=yo ((w.suf c).suf e.1) (by decide) A
    cases t
    exact⟨((q.1.trans e.1).trans c).trans b.1,fun _=>by omega⟩
   ·split at d
    ·split at d
     ·cases d
      have q:=zC (stp v)
      have F:=q.length_le
      exact⟨(q.trans c).trans b.1,fun _=>by omega⟩
     ·obtain⟨⟨y,C⟩,j,p⟩:=zs d
      have e:=ih _ _ _ _ _ _ _ (w.suf c) j
      have B:=e.1.length_le
      obtain⟨D,A,t⟩:=zs p
      have q:=yo ((w.suf c).suf e.1) (by decide) A
      cases t
      exact⟨((q.1.trans e.1).trans c).trans b.1,fun _=>by omega⟩
    ·cases d
     exact⟨b.1,fun _=>b.2⟩
  ·rw[ex]at h
   split at h
   ·obtain⟨⟨y,s⟩,g,d⟩:=zs h
    have b:=ih _ _ _ _ _ _ _ i g
    have e:=ih _ _ _ _ _ _ _ (i.suf b.1) d
    have:=e.1.length_le
    have:=b.2 (by omega)
    exact⟨e.1.trans b.1,fun _=>by omega⟩
   ·split at h
    ·split at h
     ·cases h
     ·split at h
      ·obtain⟨⟨y,s⟩,g,d⟩:=zs h
       have b:=vt g
       cases d
       exact⟨b.1,fun _=>b.2⟩
      ·split at h
       ·rename_i G
        obtain⟨⟨y,s⟩,g,d⟩:=zs h
        have c:=zC r
        have:=c.length_le
        have b:=ih _ _ _ _ _ _ _ (i.suf c) g
        have:=b.2 (by omega)
        cases d
        exact⟨b.1.trans c,fun _=>by omega⟩
       ·split at h
        ·obtain⟨⟨y,s⟩,g,d⟩:=zs h
         have c:=zC r
         have:=c.length_le
         have b:=ih _ _ _ _ _ _ _ (i.suf c) g
         have:=b.2 (by omega)
         obtain⟨v,j,p⟩:=zs d
         have e:=yo ((i.suf c).suf b.1) (by decide) j
         cases p
         exact⟨(e.1.trans b.1).trans c,fun _=>by omega⟩
        ·have b:=ih _ _ _ _ _ _ _ i h
         exact⟨b.1,fun _=>b.2 (by omega)⟩
    ·split at h
     ·obtain⟨⟨y,s⟩,g,d⟩:=zs h
      have b:=ih _ _ _ _ _ _ _ i g
      have:=b.2 (by omega)
      simp only at d
      split at d
      ·obtain⟨⟨l,v⟩,j,p⟩:=zs d
       have c:=zC s
       have:=c.length_le
       have e:=ih _ _ _ _ _ _ _ ((i.suf b.1).suf c) j
       have:=e.1.length_le
       cases p
       exact⟨(e.1.trans c).trans b.1,fun _=>show v.length<r.length by omega⟩
      ·cases d
       exact⟨b.1,fun _=>by omega⟩
     ·split at h
      ·obtain⟨⟨y,s⟩,g,d⟩:=zs h
       have c:=zC r
       have:=c.length_le
       have b:=ih _ _ _ _ _ _ _ (i.suf c) g
       have e:=ih _ _ _ _ _ _ _ ((i.suf c).suf b.1) d
       exact⟨(e.1.trans b.1).trans c,fun _=>by omega⟩
      ·cases h
       exact⟨List.suffix_refl _,fun _=>by omega⟩
def rk (k:Nat):Nat:=if k<5 then 7-k else if k=5 then 2 else if k=7 then 8 else 1
theorem xM (f:Nat):∀k o a p r,Gd r->k<=7\/10<=k/\k<15->10*r.length+rk k<=f->ex f k o a p r≠out:=by
 induction f with
 |zero=>intro k o a p r _ _ h;unfold rk at h;split at h<;>(try split at h)<;>(try split at h)<;>omega
 |succ f ih =>
  intro k o a p r b B g
  by_cases x:k=6
  ·subst x
   rw[ex6]
   simp only[rk,show ¬(6<5) by omega,if_false,show ¬(6=5) by omega,show ¬(6=7) by omega]at g
   refine zA (refT_ne r) ?_
   rintro⟨⟨m,n⟩,A⟩ h1
   have c:=uf h1
   have w:=b.suf c.1
   have s:=zC A
   have:=s.length_le
   simp only[behind]
   refine zI (fun _=>zA (ih _ _ _ _ _ (w.suf s) (by omega) (by simp only[rk,show 0<5 by omega,if_true];omega)) fun v _=>zA (zJ _ _) fun u _=>yd _) (fun _=>zI (fun _=>zI (fun _=>yd _) (fun _=>?_)) (fun _=>yd _))
   exact zA (ih _ _ _ _ _ (w.suf s) (by omega) (by simp only[rk,show ¬(7<5) by omega,if_false,show ¬(7=5) by omega,if_true];omega)) fun v _=>zA (zJ _ _) fun u _=>yd _
  ·rw[ex]
   refine zI (fun l=>?_) (fun l=>zI (fun i=>?_) (fun i=>?_))
   ·simp only[rk,l,if_true]at g
    refine zA (ih _ _ _ _ _ b (by omega) (by unfold rk;split<;>(try split)<;>omega)) ?_
    rintro⟨y,t⟩ h1
    have c:=yY f _ _ _ _ _ _ _ b h1
    have:=c.2 (by omega)
    exact ih _ _ _ _ _ (b.suf c.1) (by omega) (by simp only[rk,show ¬(10+k<5) by omega,if_false,show ¬(10+k=5) by omega,show ¬(10+k=7) by omega];omega)
   ·subst i
    simp only[rk,show ¬(5<5) by omega,if_false,if_true]at g
    refine zI (fun _=>jl (by simp)) (fun _=>zI (fun _=>zA (vq _ _) fun u _=>yd _) (fun _=>zI (fun d=>?_) (fun _=>zI (fun d=>?_) (fun _=>?_))))
    ·have q:(stp r).length<r.length:=by rcases d with d|d<;>exact yO b (by decide) d
     exact zA (ih _ _ _ _ _ (b.suf (zC r)) (by omega) (by simp only[rk,show ¬(5<5) by omega,if_false,if_true];omega)) fun u _=>yd _
    ·have q:(stp r).length<r.length:=yO b (by decide) d
     exact zA (ih _ _ _ _ _ (b.suf (zC r)) (by omega) (by simp only[rk,show 0<5 by omega,if_true];omega)) fun u _=>zA (zJ _ _) fun u _=>yd _
    ·exact ih _ _ _ _ _ b (by omega) (by simp only[rk,show ¬(6<5) by omega,if_false,show ¬(6=5) by omega,show ¬(6=7) by omega];omega)
   ·rw[if_neg x]
    refine zI (fun j=>?_) (fun j=>zI (fun q=>?_) (fun _=>yd _))
    ·subst j
     simp only[rk,show ¬(7<5) by omega,if_false,show ¬(7=5) by omega,if_true]at g
     refine zA (ih _ _ _ _ _ b (by omega) (by simp only[rk,show 0<5 by omega,if_true];omega)) ?_
     rintro⟨y,t⟩ h1
     have c:=yY f _ _ _ _ _ _ _ b h1
     have:=c.2 (by omega)
     refine zI (fun z=>?_) (fun _=>yd _)
     have:=yO (b.suf c.1) (by decide) z
     exact zA (ih _ _ _ _ _ ((b.suf c.1).suf (zC t)) (by omega) (by simp only[rk,show ¬(7<5) by omega,if_false,show ¬(7=5) by omega,if_true];omega)) fun u _=>yd _
    ·simp only[rk,l,if_false,i,j]at g
     have C:(stp r).length<r.length:=stp_lt b (by intro e;rw[e,lvl_nil]at q;omega)
     refine zA (ih _ _ _ _ _ (b.suf (zC r)) (by omega) (by unfold rk;split<;>(try split)<;>omega)) ?_
     rintro⟨y,t⟩ h1
     have c:=yY f _ _ _ _ _ _ _ (b.suf (zC r)) h1
     have:=c.1.length_le
     exact ih _ _ _ _ _ ((b.suf (zC r)).suf c.1) (by omega) (by simp only[rk,l,if_false,i,j];omega)
theorem xt (f:Nat):∀k b r x E,Gd r->sx f k b r=.ok (x,E)->E <:+ r/\(2<=k->E.length<r.length):=by
 induction f with
 |zero=>intro k b r x E _ h;rw[sx]at h;cases h
 |succ f ih =>
  intro k b r x E o h
  have w:=zC r
  have O:=w.length_le
  have z:=o.suf w
  rw[sx]at h
  split at h
  ·split at h
   ·cases h
   ·have a:=ih _ _ _ _ _ o h
    exact⟨a.1,fun _=>by omega⟩
  ·split at h
   ·split at h
    ·cases h;exact⟨List.suffix_refl _,fun _=>by omega⟩
    ·obtain⟨⟨s,F⟩,n,d⟩:=zs h
     have a:=ih _ _ _ _ _ o n
     obtain⟨⟨l,A⟩,i,j⟩:=zs d
     have c:=ih _ _ _ _ _ (o.suf a.1) i
     cases j
     exact⟨c.1.trans a.1,fun _=>by omega⟩
   ·split at h
    ·split at h
     ·obtain⟨⟨J,F⟩,n,d⟩:=zs h
      have a:=yY f _ _ _ _ _ _ _ z n
      have H:=a.1.length_le
      obtain⟨A,i,j⟩:=zs d
      have c:=yo (z.suf a.1) (by decide) i
      cases j
      exact⟨(c.1.trans a.1).trans w,fun _=>by omega⟩
     ·split at h
      ·obtain⟨⟨J,F⟩,n,d⟩:=zs h
       have a:=yY f _ _ _ _ _ _ _ z n
       have H:=a.1.length_le
       obtain⟨A,i,j⟩:=zs d
       have B:=z.suf a.1
       have c:=yo B (by decide) i
       obtain⟨⟨l,I⟩,t,m⟩:=zs j
       have q:=B.suf c.1
       have g:=ih _ _ _ _ _ q t
       have K:=g.1.length_le
       have C:=q.suf g.1
       obtain⟨G,u,v⟩:=zs m
       have p:=yo C (by decide) u
       obtain⟨Q,N,L⟩:=zs v
       have D:=yo (C.suf p.1) (by decide) N
       cases L
       exact⟨((((D.1.trans p.1).trans g.1).trans c.1).trans a.1).trans w,fun _=>by omega⟩
      ·split at h
       ·obtain⟨⟨s,F⟩,n,d⟩:=zs h
        have a:=ih _ _ _ _ _ o n
        have H:=a.1.length_le
        obtain⟨A,i,j⟩:=zs d
        have c:=yo (o.suf a.1) (by decide) i
        obtain⟨I,t,m⟩:=zs j
        have g:=yo ((o.suf a.1).suf c.1) (by decide) t
        cases m
        exact⟨(g.1.trans c.1).trans a.1,fun _=>by omega⟩
       ·obtain⟨⟨J,F⟩,n,d⟩:=zs h
        have a:=yY f _ _ _ _ _ _ _ o n
        have H:=a.2 (by omega)
        simp only at d
        split at d
        ·obtain⟨A,i,j⟩:=zs d
         have c:=yo (o.suf a.1) (by decide) i
         cases j
         exact⟨c.1.trans a.1,fun _=>by omega⟩
        ·split at d
         ·obtain⟨A,i,j⟩:=zs d
          have c:=yo (o.suf a.1) (by decide) i
          have q:=(o.suf a.1).suf c.1
          obtain⟨⟨y,I⟩,t,m⟩:=zs j
          have g:=yY f _ _ _ _ _ _ _ q t
          have K:=g.1.length_le
          obtain⟨G,u,v⟩:=zs m
          have p:=yo (q.suf g.1) (by decide) u
          cases v
          exact⟨((p.1.trans g.1).trans c.1).trans a.1,fun _=>by omega⟩
         ·cases d
    ·obtain⟨⟨J,F⟩,n,d⟩:=zs h
     have a:=yY f _ _ _ _ _ _ _ z n
     have H:=a.1.length_le
     obtain⟨A,i,j⟩:=zs d
     have B:=z.suf a.1
     have c:=yo B (by decide) i
     obtain⟨⟨l,I⟩,t,m⟩:=zs j
     have q:=B.suf c.1
     have g:=ih _ _ _ _ _ q t
     have K:=g.1.length_le
     have C:=q.suf g.1
     simp only at m
     split at m
     ·obtain⟨⟨e,G⟩,u,v⟩:=zs m
      have p:=ih _ _ _ _ _ C u
      have M:=p.1.length_le
      cases v
      exact⟨(((p.1.trans g.1).trans c.1).trans a.1).trans w,fun _=>show G.length<r.length by omega⟩
     ·split at m
      ·obtain⟨⟨e,G⟩,u,v⟩:=zs m
       have D:=zC I
       have P:=D.length_le
       have p:=ih _ _ _ _ _ (C.suf D) u
       have M:=p.1.length_le
       cases v
       exact⟨((((p.1.trans D).trans g.1).trans c.1).trans a.1).trans w,fun _=>show G.length<r.length by omega⟩
      ·cases m
       exact⟨((g.1.trans c.1).trans a.1).trans w,fun _=>by omega⟩
theorem sx_fuel (f:Nat):∀k b r,Gd r->10*r.length+6-k<=f->10*r.length+2<=f->(3<=k->tx r≠[])->sx f k b r≠out:=by
 induction f with
 |zero=>intro k b r _ _ h _;omega
 |succ f ih =>
  intro k b r a I E g
  have x:=zC r
  have F:=x.length_le
  have e:=a.suf x
  rw[sx]
  refine zI (fun A=>zI (fun _=>jl (by simp)) (fun _=>ih _ _ _ a (by omega) (by omega) (by omega))) (fun A=>zI (fun B=>zI (fun _=>yd _) (fun _=>?_)) (fun B=>zI (fun w=>?_) (fun w=>?_)))
  ·refine zA (ih _ _ _ a (by omega) (by omega) (by omega)) ?_
   rintro⟨s,p⟩ h1
   have c:=xt f _ _ _ _ _ a h1
   have:=c.2 (by omega)
   exact zA (ih _ _ _ (a.suf c.1) (by omega) (by omega) (by omega)) fun u _=>yd _
  ·subst w
   have t:(stp r).length<r.length->ex f 0 0 0 [] (stp r)≠out:=fun j=>xM f 0 0 0 [] (stp r) e (by omega) (by simp only[rk,show 0<5 by omega,if_true];omega)
   refine zI (fun d=>?_) (fun _=>zI (fun d=>?_) (fun _=>zI (fun d=>?_) (fun _=>?_)))
   ·have j:(stp r).length<r.length:=by rcases d with d|d<;>exact yO a (by decide) d
    exact zA (t j) fun u _=>zA (zJ _ _) fun u _=>yd _
   ·have j:(stp r).length<r.length:=yO a (by decide) d
    refine zA (t j) ?_
    rintro⟨z,p⟩ h1
    have c:=yY f _ _ _ _ _ _ _ e h1
    have v:=c.1.length_le
    refine zA (zJ _ _) ?_
    intro q g
    have i:=yo (e.suf c.1) (by decide) g
    exact zA (ih _ _ _ ((e.suf c.1).suf i.1) (by omega) (by omega) (by omega)) fun u _=>zA (zJ _ _) fun u _=>zA (zJ _ _) fun u _=>yd _
   ·exact zA (ih _ _ _ a (by omega) (by have:=yO a (by decide) d;omega) (by intro _;rw[d];decide)) fun u _=>zA (zJ _ _) fun u _=>zA (zJ _ _) fun u _=>yd _
   ·refine zA (xM f 6 0 0 [] r a (by omega) (by simp only[rk,show ¬(6<5) by omega,if_false,show ¬(6=5) by omega,show ¬(6=7) by omega];omega)) ?_
    rintro⟨z,p⟩ h1
    have c:=yY f _ _ _ _ _ _ _ a h1
    have v:=c.2 (by omega)
    refine zI (fun _=>zA (zJ _ _) fun u _=>yd _) (fun _=>zI (fun _=>zA (zJ _ _) ?_) (fun _=>jl (by simp)))
    intro q g
    have i:=yo (a.suf c.1) (by decide) g
    exact zA (xM f 0 0 0 [] q ((a.suf c.1).suf i.1) (by omega) (by simp only[rk,show 0<5 by omega,if_true];omega)) fun u _=>zA (zJ _ _) fun u _=>yd _
  ·have j:(stp r).length<r.length:=stp_lt a (g (by omega))
   ·refine zA (xM f 0 0 0 [] (stp r) e (by omega) (by simp only[rk,show 0<5 by omega,if_true];omega)) ?_
    rintro⟨z,p⟩ h1
    have c:=yY f _ _ _ _ _ _ _ e h1
    have v:=c.1.length_le
    refine zA (zJ _ _) ?_
    intro q g
    have m:=e.suf c.1
    have i:=yo m (by decide) g
    refine zA (ih _ _ _ (m.suf i.1) (by omega) (by omega) (by omega)) ?_
    rintro⟨l,D⟩ h5
    have n:=m.suf i.1
    have o:=xt f _ _ _ _ _ n h5
    have G:=o.1.length_le
    have y:=zC D
    have H:=y.length_le
    exact zI (fun C=>zA (ih _ _ _ (n.suf o.1) (by omega) (by omega) (by intro _;rw[C];decide)) fun u _=>yd _) (fun _=>zI (fun _=>zA (ih _ _ _ ((n.suf o.1).suf y) (by omega) (by omega) (by omega)) fun u _=>yd _) (fun _=>yd _))
theorem kh (f:Nat):∀c most r l b,names f c most r=.ok (l,b)->b <:+ r:=by
 induction f with
 |zero=>intro c most r l b h;cases h
 |succ f ih =>
  intro c most r l b h
  rw[names]at h
  split at h
  ·cases h
  ·obtain⟨⟨n,k⟩,e,a⟩:=zs h
   have d:=kN e
   simp only at a
   split at a
   ·obtain⟨⟨m,o⟩,g,i⟩:=zs a
    have j:=ih _ _ _ _ _ g
    cases i
    exact(j.trans (zC k)).trans d.1
   ·cases a
    exact d.1
theorem x8 (f:Nat):∀a most r,1<=f->most+1<=f+a->names f a most r≠out:=by
 induction f with
 |zero=>intro a most r h;omega
 |succ f ih =>
  intro a most r _ b
  rw[names]
  refine zI (fun _=>jl (by simp)) (fun c=>zA (jh r) ?_)
  rintro⟨n,d⟩ _
  exact zI (fun _=>zA (ih _ _ _ (by omega) (by omega)) fun u _=>yd _) (fun _=>yd _)
theorem if_suf (h:a=if tx r=s then stp r else r):a <:+ r:=by
 subst h
 split
 ·exact zC r
 ·exact List.suffix_refl _
theorem ux (r:List Tok)(s:Bs):(if tx r=s then stp r else r) <:+ r:=if_suf rfl
theorem zO (h:want s r=.ok a):a <:+ r:=by obtain⟨_,rfl⟩:=vR h;exact zC r
theorem global_suf {f:List Tok}{g:G}(h:global r=.ok (g,f)):f <:+ r:=by
 unfold global at h
 obtain⟨⟨n,u⟩,j,l⟩:=zs h
 have q:=(kN j).1
 obtain⟨v,m,a⟩:=zs l
 have e:=(zO m).trans ((ux u mStar).trans q)
 simp only at a
 split at a
 ·obtain⟨w,c,d⟩:=zs a
  cases d
  exact(zO c).trans ((zC v).trans e)
 ·obtain⟨w,c,d⟩:=zs a
  have s:=(zO c).trans e
  obtain⟨⟨k,x⟩,o,b⟩:=zs d
  have t:=(vt o).1.trans s
  simp only at b
  split at b
  ·cases b
  ·obtain⟨y,p,i⟩:=zs b
   cases i
   exact(zO p).trans t
theorem global_ne (r:List Tok):global r≠out:=by
 unfold global
 refine zA (jh r) fun v _=>zA (zJ _ _) fun a _=>zI (fun _=>zA (zJ _ _) fun _ _=>yd _) (fun _=>zA (zJ _ _) fun _ _=>zA (vq _ _) fun _ _=>?_)
 exact zI (fun _=>jl (by simp)) (fun _=>zA (zJ _ _) fun _ _=>yd _)
theorem uy (f:Nat):∀b r l a,globals f b r=.ok (l,a)->a <:+ r:=by
 induction f with
 |zero=>intro b r l a h;cases h
 |succ f ih =>
  intro b r l a h
  rw[globals]at h
  split at h
  ·split at h
   ·cases h
   ·obtain⟨⟨g,k⟩,c,d⟩:=zs h
    obtain⟨⟨j,m⟩,e,i⟩:=zs d
    cases i
    exact(ih _ _ _ _ e).trans ((global_suf c).trans (zC r))
  ·cases h
   exact List.suffix_refl _
theorem globals_ne (f:Nat):∀a r,12<=f+a->1<=f->a<=10->globals f a r≠out:=by
 induction f with
 |zero=>intro a r _ h;omega
 |succ f ih =>
  intro a r b _ c
  rw[globals]
  refine zI (fun _=>zI (fun _=>jl (by simp)) (fun d=>zA (global_ne _) fun v _=>zA (ih _ _ (by omega) (by omega) (by omega)) fun _ _=>yd _)) (fun _=>yd _)
theorem proc_suf {m:List Tok}{p:Pr}(H:Gd r)(h:proc f r=.ok (p,m)):m <:+ r:=by
 unfold proc at h
 obtain⟨W,z,A⟩:=zs h
 have I:=zO z
 obtain⟨⟨n,M⟩,B,C⟩:=zs A
 have J:=(kN B).1.trans I
 obtain⟨X,D,E⟩:=zs C
 have j:=(zO D).trans ((ux M mStar).trans J)
 obtain⟨⟨ps,N⟩,i,F⟩:=zs E
 have K:N <:+ r:=by
  split at i
  ·cases i;exact j
  ·exact(kh _ _ _ _ _ _ i).trans j
 obtain⟨Y,G,o⟩:=zs F
 obtain⟨O,q,s⟩:=zs o
 have k:=(zO q).trans ((zO G).trans K)
 obtain⟨⟨vs,P⟩,a,t⟩:=zs s
 have L:P <:+ r:=by
  split at a
  ·obtain⟨⟨V,U⟩,c,d⟩:=zs a
   obtain⟨Q,e,g⟩:=zs d
   cases g
   exact(zO e).trans ((kh _ _ _ _ _ _ c).trans ((zC O).trans k))
  ·cases a;exact k
 obtain⟨Q,c,d⟩:=zs t
 have l:=(zO c).trans L
 obtain⟨⟨b,R⟩,e,g⟩:=zs d
 have y:=(xt f _ _ _ _ _ (H.suf l) e).1.trans l
 obtain⟨S,u,v⟩:=zs g
 obtain⟨T,w,x⟩:=zs v
 cases x
 exact(zO w).trans ((zO u).trans y)
theorem proc_ne (m:Gd r)(z:10*r.length+6<=f):proc f r≠out:=by
 unfold proc
 refine zA (zJ _ _) fun A j=>zA (jh _) ?_
 rintro⟨n,s⟩ h3
 have o:=(kN h3).1.trans (zO j)
 refine zA (zJ _ _) fun B k=>?_
 have b:=(zO k).trans ((ux s mStar).trans o)
 refine zA (zI (fun _=>yd _) (fun _=>x8 _ _ _ _ (by omega) (by omega))) ?_
 rintro⟨ps,t⟩ h7
 have p:t <:+ r:=by
  split at h7
  ·cases h7;exact b
  ·exact(kh _ _ _ _ _ _ h7).trans b
 refine zA (zJ _ _) fun C l=>zA (zJ _ _) fun u e=>?_
 have c:=(zO e).trans ((zO l).trans p)
 refine zA (zI (fun _=>zA (x8 _ _ _ _ (by omega) (by omega)) fun _ _=>zA (zJ _ _) fun _ _=>yd _) (fun _=>yd _)) ?_
 rintro⟨vs,v⟩ h13
 have q:v <:+ r:=by
  split at h13
  ·obtain⟨⟨y,x⟩,a,g⟩:=zs h13
   obtain⟨w,h,i⟩:=zs g
   cases i
   exact(zO h).trans ((kh _ _ _ _ _ _ a).trans ((zC u).trans c))
  ·cases h13;exact c
 refine zA (zJ _ _) fun w a=>?_
 have d:=(zO a).trans q
 have:=d.length_le
 exact zA (sx_fuel f _ _ _ (m.suf d) (by omega) (by omega) (by omega)) fun _ _=>zA (zJ _ _) fun _ _=>zA (zJ _ _) fun _ _=>yd _
theorem procs_suf (f:Nat):∀g b r l a,Gd r->procs f g b r=.ok (l,a)->a <:+ r:=by
 induction f with
 |zero=>intro g b r l a _ h;cases h
 |succ f ih =>
  intro g b r l a c h
  rw[procs]at h
  split at h
  ·split at h
   ·cases h
   ·obtain⟨⟨p,n⟩,e,i⟩:=zs h
    have d:=proc_suf c e
    obtain⟨⟨m,o⟩,j,k⟩:=zs i
    cases k
    exact(ih _ _ _ _ _ (c.suf d) j).trans d
  ·cases h
   exact List.suffix_refl _
theorem procs_ne (f:Nat):∀g a r,Gd r->10*r.length+6<=g->12<=f+a->1<=f->a<=10->procs f g a r≠out:=by
 induction f with
 |zero=>intro g a r _ _ _ h;omega
 |succ f ih =>
  intro g a r b d e _ i
  rw[procs]
  refine zI (fun _=>zI (fun _=>jl (by simp)) (fun j=>zA (proc_ne b d) ?_)) (fun _=>yd _)
  rintro⟨p,k⟩ h3
  have c:=proc_suf b h3
  have:=c.length_le
  exact zA (ih _ _ _ (b.suf c) (by omega) (by omega) (by omega) (by omega)) fun _ _=>yd _
theorem module_ne (b:Gd r)(w:10*r.length+6<=f):module f r≠out:=by
 unfold module
 refine zA (zJ _ _) fun x k=>zA (jh _) ?_
 rintro⟨n,y⟩ h3
 have m:=(kN h3).1.trans (zO k)
 refine zA (zJ _ _) fun q l=>?_
 have c:=(zO l).trans m
 refine zA (zI (fun _=>zA (x8 _ _ _ _ (by omega) (by omega)) fun _ _=>zA (zJ _ _) fun _ _=>yd _) (fun _=>yd _)) ?_
 rintro⟨vs,s⟩ h7
 have o:s <:+ r:=by
  split at h7
  ·obtain⟨⟨u,t⟩,g,h⟩:=zs h7
   obtain⟨C,i,j⟩:=zs h
   cases j
   exact(zO i).trans ((kh _ _ _ _ _ _ g).trans ((zC q).trans c))
  ·cases h7;exact c
 refine zA (globals_ne _ _ _ (by omega) (by omega) (by omega)) ?_
 rintro⟨v,z⟩ h9
 have a:=(uy _ _ _ _ _ h9).trans o
 have:=a.length_le
 refine zA (procs_ne _ _ _ _ (b.suf a) (by omega) (by omega) (by omega) (by omega)) ?_
 rintro⟨ps,A⟩ h11
 have p:=(procs_suf _ _ _ _ _ _ (b.suf a) h11).trans a
 refine zA (zJ _ _) fun B e=>?_
 have d:=(zO e).trans p
 have:=d.length_le
 refine zA (sx_fuel f _ _ _ (b.suf d) (by omega) (by omega) (by omega)) fun _ _=>zA (zJ _ _) fun _ _=>zA (zJ _ _) fun _ _=>zI (fun _=>yd _) (fun _=>jl (by simp))
def wt (r:List Tok):Nat:=(r.map fun t=>t.text.length).sum
structure Tk (t:Tok):Prop where
 k0:t.kind=0->t.text=[]
 k1:t.kind=1->∃c l,t.text=c :: l/\letter c=true/\∀d,d∈t.text->ld d=true
 k2:t.kind=2->t.text≠[]/\∀d,d∈t.text->digit d=true
 k3:t.kind=3->t.text∈marks
 kk:t.kind<=3
def Tks (r:List Tok):Prop:=∀t,t∈r->Tk t
theorem Tks.gd (h:Tks r):Gd r:=fun t a=>(h t a).k0
theorem Tks.suf (h:Tks r)(k:a <:+ r):Tks a:=fun t b=>h t (k.subset b)
theorem wt_stp (r:List Tok):wt (stp r)+(if (hd r).kind=0 then 0 else (tx r).length)=wt r:=by
 unfold stp
 split
 ·rfl
 ·cases r with
  |nil=>rfl
  |cons t l=>simp[wt,tx,hd];omega
theorem yn (h:Tks r):wt (stp r)+(tx r).length=wt r:=by
 have:=wt_stp r
 split at this
 ·rename_i a
  have:tx r=[]:=by
   cases r with
   |nil=>rfl
   |cons t l=>exact(h t (by simp)).k0 a
  rw[this];simpa using ‹_›
 ·exact this
def okn (n:Bs):Prop:=(∃c l,n=c :: l/\letter c=true/\∀d,d∈n->ld d=true)/\n ∉ kept/\n.length<=10
theorem ku (f:Tks r)(h:name r=.ok (n,a)):okn n/\a=stp r/\1+wt a<=wt r:=by
 obtain⟨b,i,j,rfl,rfl⟩:=name_ok' h
 have g:∃c l,tx r=c :: l/\letter c=true/\∀d,d∈tx r->ld d=true:=by
  cases r with
  |nil=>exact absurd b (by decide)
  |cons t l=>exact(f t (by simp)).k1 b
 refine⟨⟨g,i,j⟩,rfl,?_⟩
 obtain⟨c,l,e,_⟩:=g
 have:=yn f
 rw[e]at this
 simp at this;omega
def lowN (k:Nat) (l:List X):Nat:=if isLow k l then 1 else 0
def DX:List X->Nat
 |[]=>0
 | ⟨code,_,_,_,_,op,le,ri,ar⟩ :: xs =>
  max (if code=3 then 1+DX le else if code=4 then 1+(lowN 5 le+DX le) else if code=5 then max (lowN (lvl op) le+DX le) (lowN (lvl op+1) ri+DX ri) else if code=6 then (if ar.isEmpty then 0 else 1+DX ar) else 0) (DX xs)
def rN (m:Bs):Nat:=if m=[] then 1 else 3
def NX:List X->Nat
 |[]=>0
 | ⟨code,_,_,m,_,op,le,ri,ar⟩ :: xs =>
  (if code=3 then rN m+2+NX le else if code=4 then 1+(2*lowN 5 le+NX le) else if code=5 then 1+(2*lowN (lvl op) le+NX le)+(2*lowN (lvl op+1) ri+NX ri) else if code=6 then rN m+2+(ar.length-1)+NX ar else if code=2 then rN m else 1)+NX xs
def okr (m n:Bs):Prop:=(m=[]\/okn m)/\okn n
def WX:List X->Prop
 |[]=>True
 | ⟨code,_,n,m,nm,op,le,ri,ar⟩ :: xs =>
  (code=1/\n<=top/\m=[]/\nm=[]/\op=[]/\le=[]/\ri=[]/\ar=[] \/
  code=2/\n=0/\okr m nm/\op=[]/\le=[]/\ri=[]/\ar=[] \/
  code=3/\n=0/\okr m nm/\op=[]/\WX le/\le.length=1/\ri=[]/\ar=[] \/
  code=4/\n=0/\m=[]/\nm=[]/\(op=mMinus\/op=wNot)/\WX le/\le.length=1/\ri=[]/\ar=[] \/
  code=5/\n=0/\m=[]/\nm=[]/\lvl op<5/\WX le/\le.length=1/\WX ri/\ri.length=1/\ar=[] \/
  code=6/\n=0/\okr m nm/\op=[]/\le=[]/\ri=[]/\WX ar)/\WX xs
theorem len1 {α:Type}{l:List α}(h:l.length=1):∃x,l=[x]:=by
 match l,h with
 |[x],_=>exact⟨x,rfl⟩
theorem refT_okr {f:List Tok}{m:Bs}(d:Tks r)(h:refT r=.ok ((m,n),f)):okr m n/\rN m+wt f<=wt r:=by
 unfold refT at h
 obtain⟨⟨p,s⟩,k,a⟩:=zs h
 obtain⟨c,rfl,i⟩:=ku d k
 simp only at a
 have b:=d.suf (zC r)
 split at a
 ·rename_i g
  obtain⟨⟨q,t⟩,l,o⟩:=zs a
  have e:=yn b
  rw[g]at e
  simp[mDot]at e
  obtain⟨j,rfl,b2⟩:=ku (b.suf (zC _)) l
  cases o
  refine⟨⟨Or.inr c,j⟩,?_⟩
  simp only
  unfold rN
  split<;>omega
 ·cases a
  exact⟨⟨Or.inl rfl,c⟩,by simpa[rN] using i⟩
theorem vA {j:Nat}(h:j<=k)(l:List X):lowN j l<=lowN k l:=by
 unfold lowN
 match l with
 |[]=>simp[isLow]
 |x :: _ =>
  simp only[isLow]
  by_cases a:x.code=5
  ·by_cases b:lvl x.op<j
   ·have:lvl x.op<k:=by omega
    simp[a,b,this]
   ·simp[a,b]
  ·simp[a]
theorem lowN_one (k:Nat)(l:List X):lowN k l<=1:=by unfold lowN;split<;>omega
theorem lvl_len (h:lvl s<5):1<=s.length:=by
 cases s with
 |nil=>exact absurd h (by decide)
 |cons c l=>simp
structure Rx (k o:Nat) (x:List X) (r r':List Tok):Prop where
 one:k≠7->x.length=1
 some:1<=x.length
 wx:WX x
 dx:k≠7->o+lowN (if k<10 then k else k-10) x+DX x<=10
 d7:k=7->o+1+DX x<=10
 nx:k≠7->k<10->NX x+2*lowN k x+wt r'<=wt r
 n7:k=7->NX x+(x.length-1)+wt r'<=wt r
theorem WX_app:∀(l m:List X),WX l->WX m->WX (l++m):=by
 intro l
 induction l with
 |nil=>intro m _ h;exact h
 |cons x xs ih =>
  intro m h k
  obtain⟨code,pos,n,c,nm,op,b,d,a⟩:=x
  rw[List.cons_append,WX]
  rw[WX]at h
  exact⟨h.1,ih m h.2 k⟩
theorem DX_app:∀(l m:List X),DX (l++m)=max (DX l) (DX m):=by
 intro l
 induction l with
 |nil=>intro m;simp[DX]
 |cons x xs ih =>
  intro m
  obtain⟨code,pos,n,c,nm,op,b,d,a⟩:=x
  rw[List.cons_append,DX,DX,ih]
  omega
theorem NX_app:∀(l m:List X),NX (l++m)=NX l+NX m:=by
 intro l
 induction l with
 |nil=>intro m;simp[NX]
 |cons x xs ih =>
  intro m
  obtain⟨code,pos,n,c,nm,op,b,d,a⟩:=x
  rw[List.cons_append,NX,NX,ih]
  omega
theorem zU {x:X}{xs:List X}(h:x.code≠5):lowN k (x :: xs)=0:=by
 simp[lowN,isLow,h]
theorem DX1 (x:X):DX [x]=(if x.code=3 then 1+DX x.left else if x.code=4 then 1+(lowN 5 x.left+DX x.left) else if x.code=5 then max (lowN (lvl x.op) x.left+DX x.left) (lowN (lvl x.op+1) x.right+DX x.right) else if x.code=6 then (if x.args.isEmpty then 0 else 1+DX x.args) else 0):=by
 obtain⟨code,pos,n,c,nm,op,b,d,a⟩:=x
 rw[DX,DX];simp
theorem NX1 (x:X):NX [x]=(if x.code=3 then rN x.mod+2+NX x.left else if x.code=4 then 1+(2*lowN 5 x.left+NX x.left) else if x.code=5 then 1+(2*lowN (lvl x.op) x.left+NX x.left)+(2*lowN (lvl x.op+1) x.right+NX x.right) else if x.code=6 then rN x.mod+2+(x.args.length-1)+NX x.args else if x.code=2 then rN x.mod else 1):=by
 obtain⟨code,pos,n,c,nm,op,b,d,a⟩:=x
 rw[NX,NX];simp
theorem jr:WX []:=by rw[WX];trivial
theorem xr (c:Tks r)(h:want s r=.ok a):a=stp r/\wt a+s.length=wt r:=by
 obtain⟨b,rfl⟩:=vR h
 have:=yn c
 rw[b]at this
 exact⟨rfl,this⟩
theorem ex_rx (f:Nat):∀k o a g r x H,Tks r->(k<=7\/10<=k/\k<15)->(k=6->o<=10)->(10<=k->g.length=1/\WX g/\o+lowN (k-10) g+DX g<=10)->ex f k o a g r=.ok (x,H) ->
  Rx k o x r H/\(10<=k->NX x+2*lowN (k-10) x+wt H<=NX g+2*lowN (k-10) g+wt r):=by
 induction f with
 |zero=>intro k o a g r x H _ _ _ _ h;rw[ex]at h;cases h
 |succ f ih =>
  intro k o a g r x H p hk a0 P h
  have z:=p.suf (zC r)
  have Y:=yn p
  by_cases F:k=6
  ·subst F
   have V:=a0 rfl
   rw[ex6]at h
   obtain⟨⟨⟨m,n⟩,O⟩,d,b⟩:=zs h
   obtain⟨K,kw⟩:=refT_okr p d
   have S:=p.suf (uf d).1
   have A:=S.suf (zC O)
   have L:=yn S
   simp only[behind]at b
   split at b
   ·rename_i N
    rw[N]at L
    simp[mLb]at L
    obtain⟨⟨y,r3⟩,v,B⟩:=zs b
    obtain⟨q,_⟩:=ih 0 (o+1) 0 [] _ _ _ A (by omega) (by omega) (by omega) v
    obtain⟨r4,D,F⟩:=zs B
    have I:=(xr (A.suf (yY f _ _ _ _ _ _ _ A.gd v).1) D).2
    simp[mRb]at I
    cases F
    have i:=q.one (by omega)
    have j:=q.dx (by omega)
    have C:=q.nx (by omega) (by omega)
    refine⟨⟨fun _=>rfl,by simp,?_,fun _=>?_,fun e=>by omega,fun _ _=>?_,fun e=>by omega⟩,fun e=>by omega⟩
    ·rw[WX];exact⟨Or.inr (Or.inr (Or.inl ⟨rfl,rfl,K,rfl,q.wx,i,rfl,rfl⟩)),jr⟩
    ·rw[zU (by simp),DX1];simp;omega
    ·rw[zU (by simp),NX1];simp;omega
   ·split at b
    ·rename_i N
     rw[N]at L
     simp[mLp]at L
     split at b
     ·rename_i a1
      have w3:=yn A
      rw[a1]at w3
      simp[mRp]at w3
      cases b
      refine⟨⟨fun _=>rfl,by simp,?_,fun _=>?_,fun e=>by omega,fun _ _=>?_,fun e=>by omega⟩,fun e=>by omega⟩
      ·rw[WX];exact⟨Or.inr (Or.inr (Or.inr (Or.inr (Or.inr ⟨rfl,rfl,K,rfl,rfl,rfl,jr⟩)))),jr⟩
      ·rw[zU (by simp),DX1];simp;omega
      ·rw[zU (by simp),NX1];simp[NX];omega
     ·obtain⟨⟨y,r3⟩,v,B⟩:=zs b
      obtain⟨q,_⟩:=ih 7 o 0 [] _ _ _ A (by omega) (by omega) (by omega) v
      obtain⟨r4,D,F⟩:=zs B
      have I:=(xr (A.suf (yY f _ _ _ _ _ _ _ A.gd v).1) D).2
      simp[mRp]at I
      cases F
      have i:=q.some
      have j:=q.d7 rfl
      have C:=q.n7 rfl
      have qe:y.isEmpty=false:=by cases y<;>simp at i ⊢
      refine⟨⟨fun _=>rfl,by simp,?_,fun _=>?_,fun e=>by omega,fun _ _=>?_,fun e=>by omega⟩,fun e=>by omega⟩
      ·rw[WX];exact⟨Or.inr (Or.inr (Or.inr (Or.inr (Or.inr ⟨rfl,rfl,K,rfl,rfl,rfl,q.wx⟩)))),jr⟩
      ·rw[zU (by simp),DX1];simp[qe];omega
      ·rw[zU (by simp),NX1];simp;omega
    ·cases b
     refine⟨⟨fun _=>rfl,by simp,?_,fun _=>?_,fun e=>by omega,fun _ _=>?_,fun e=>by omega⟩,fun e=>by omega⟩
     ·rw[WX];exact⟨Or.inr (Or.inl ⟨rfl,rfl,K,rfl,rfl,rfl,rfl⟩),jr⟩
     ·rw[zU (by simp),DX1];simp;omega
     ·rw[zU (by simp),NX1];simp;omega
  ·rw[ex]at h
   split at h
   ·rename_i D
    obtain⟨⟨y,E⟩,d,b⟩:=zs h
    obtain⟨q,_⟩:=ih (k+1) o 0 [] _ _ _ p (by omega) (by intro e;omega) (by omega) d
    have i:=q.one (by omega)
    have j:=q.dx (by omega)
    have C:=q.nx (by omega) (by omega)
    rw[if_pos (by omega)]at j
    have w:=vA (show k<=k+1 by omega) y
    have M:10+k-10=k:=by omega
    obtain⟨u,u2⟩:=ih (10+k) o (at' r) y _ _ _ (p.suf (yY f _ _ _ _ _ _ _ p.gd d).1) (by omega) (by omega) (fun _=>⟨i,q.wx,by rw[M];omega⟩) b
    have u3:=u2 (by omega)
    have u4:=u.dx (by omega)
    rw[if_neg (by omega),M]at u4
    rw[M]at u3
    exact⟨⟨fun _=>u.one (by omega),u.some,u.wx,fun _=>by rw[if_pos (by omega)];exact u4,fun e=>by omega,fun _ _=>by omega,fun e=>by omega⟩,fun e=>by omega⟩
   ·split at h
    ·rename_i a2 D
     subst D
     split at h
     ·cases h
     ·rename_i V
      split at h
      ·obtain⟨⟨n,E⟩,d,b⟩:=zs h
       obtain⟨W,n2,n3,rfl⟩:=jg d
       have G:1<=(tx r).length:=by
        cases r with
        |nil=>exact absurd W (by decide)
        |cons t l =>
         have:=((p t (by simp)).k2 W).1
         show 1<=t.text.length
         cases e:t.text with
         |nil=>exact absurd e this
         |cons c l=>simp
       cases b
       refine⟨⟨fun _=>rfl,by simp,?_,fun _=>?_,fun e=>by omega,fun _ _=>?_,fun e=>by omega⟩,fun e=>by omega⟩
       ·rw[WX];exact⟨Or.inl ⟨rfl,n3,rfl,rfl,rfl,rfl,rfl,rfl⟩,jr⟩
       ·rw[zU (by simp),DX1];simp;omega
       ·rw[zU (by simp),NX1];simp;omega
      ·split at h
       ·rename_i w
        obtain⟨⟨y,E⟩,d,b⟩:=zs h
        obtain⟨q,_⟩:=ih 5 (o+1) 0 [] _ _ _ z (by omega) (by omega) (by omega) d
        have i:=q.one (by omega)
        have j:=q.dx (by omega)
        have C:=q.nx (by omega) (by omega)
        rw[if_pos (by omega)]at j
        have G:1<=(tx r).length:=by rcases w with w|w<;>rw[w]<;>decide
        cases b
        refine⟨⟨fun _=>rfl,by simp,?_,fun _=>?_,fun e=>by omega,fun _ _=>?_,fun e=>by omega⟩,fun e=>by omega⟩
        ·rw[WX];exact⟨Or.inr (Or.inr (Or.inr (Or.inl ⟨rfl,rfl,rfl,rfl,w,q.wx,i,rfl,rfl⟩))),jr⟩
        ·rw[zU (by simp),DX1];simp;omega
        ·rw[zU (by simp),NX1];simp;omega
       ·split at h
        ·rename_i w
         rw[w]at Y
         simp[mLp]at Y
         obtain⟨⟨y,E⟩,d,b⟩:=zs h
         obtain⟨q,_⟩:=ih 0 (o+1) 0 [] _ _ _ z (by omega) (by omega) (by omega) d
         have i:=q.one (by omega)
         have j:=q.dx (by omega)
         have C:=q.nx (by omega) (by omega)
         rw[if_pos (by omega)]at j
         obtain⟨O,v,B⟩:=zs b
         have I:=(xr (z.suf (yY f _ _ _ _ _ _ _ z.gd d).1) v).2
         simp[mRp]at I
         cases B
         have:=lowN_one 5 x
         exact⟨⟨fun _=>i,q.some,q.wx,fun _=>by rw[if_pos (by omega)];omega,fun e=>by omega,fun _ _=>by omega,fun e=>by omega⟩,fun e=>by omega⟩
        ·obtain⟨q,_⟩:=ih 6 o 0 [] _ _ _ p (by omega) (by omega) (by omega) h
         have j:=q.dx (by omega)
         have C:=q.nx (by omega) (by omega)
         rw[if_pos (by omega)]at j
         have:=vA (show 5<=6 by omega) x
         exact⟨⟨fun _=>q.one (by omega),q.some,q.wx,fun _=>by rw[if_pos (by omega)];omega,fun e=>by omega,fun _ _=>by omega,fun e=>by omega⟩,fun e=>by omega⟩
    ·split at h
     ·rename_i U
      subst U
      obtain⟨⟨y,E⟩,d,b⟩:=zs h
      obtain⟨q,_⟩:=ih 0 (o+1) 0 [] _ _ _ p (by omega) (by omega) (by omega) d
      have i:=q.one (by omega)
      have j:=q.dx (by omega)
      have C:=q.nx (by omega) (by omega)
      rw[if_pos (by omega)]at j
      have R:=p.suf (yY f _ _ _ _ _ _ _ p.gd d).1
      have Z:=yn R
      simp only at b
      split at b
      ·rename_i hc
       rw[hc]at Z
       simp[mComma]at Z
       obtain⟨⟨l,O⟩,v,B⟩:=zs b
       obtain⟨u,_⟩:=ih 7 o 0 [] _ _ _ (R.suf (zC E)) (by omega) (by omega) (by omega) v
       have u1:=u.some
       have u4:=u.d7 rfl
       have u5:=u.n7 rfl
       cases B
       refine⟨⟨fun e=>absurd rfl e,by simp;omega,WX_app _ _ q.wx u.wx,fun e=>absurd rfl e,fun _=>by simp only[DX_app];omega,fun e=>absurd rfl e,fun _=>?_⟩,fun e=>by omega⟩
       rw[NX_app,List.length_append,i]
       simp only
       omega
      ·cases b
       exact⟨⟨fun e=>absurd rfl e,q.some,q.wx,fun e=>absurd rfl e,fun _=>by omega,fun e=>absurd rfl e,fun _=>by rw[i];omega⟩,fun e=>by omega⟩
     ·split at h
      ·rename_i U G
       have J:10<=k:=by omega
       obtain⟨c1,c2,T⟩:=P J
       have V:=lvl_len (s:=tx r) (by omega)
       obtain⟨⟨y,E⟩,d,b⟩:=zs h
       obtain⟨q,_⟩:=ih (k-10+1) o 0 [] _ _ _ z (by omega) (by omega) (by omega) d
       have i:=q.one (by omega)
       have j:=q.dx (by omega)
       have C:=q.nx (by omega) (by omega)
       rw[if_pos (by omega)]at j
       have Q:lowN (k-10) [(⟨5,a,0,[],[],tx r,g,y,[]⟩:X)]=0:=by simp[lowN,isLow,G]
       have hD:DX [(⟨5,a,0,[],[],tx r,g,y,[]⟩:X)]=max (lowN (k-10) g+DX g) (lowN (k-10+1) y+DX y):=by rw[DX1];simp[G]
       have hN:NX [(⟨5,a,0,[],[],tx r,g,y,[]⟩:X)]=1+(2*lowN (k-10) g+NX g)+(2*lowN (k-10+1) y+NX y):=by rw[NX1];simp[G]
       obtain⟨u,u2⟩:=ih k o a [⟨5,a,0,[],[],tx r,g,y,[]⟩] _ _ _ (z.suf (yY f _ _ _ _ _ _ _ z.gd d).1) hk (by omega) (fun _=>⟨rfl,by
        rw[WX];exact⟨Or.inr (Or.inr (Or.inr (Or.inr (Or.inl ⟨rfl,rfl,rfl,rfl,by omega,c2,c1,q.wx,i,rfl⟩)))),jr⟩,by rw[Q,hD];omega⟩) b
       have u3:=u2 J
       rw[Q,hN]at u3
       refine⟨⟨u.one,u.some,u.wx,u.dx,u.d7,fun e e2=>by omega,fun e=>by omega⟩,fun _=>by omega⟩
      ·cases h
       have J:10<=k:=by omega
       obtain⟨c1,c2,T⟩:=P J
       exact⟨⟨fun _=>c1,by omega,c2,fun _=>by rw[if_neg (by omega)];exact T,fun e=>by omega,fun _ e=>by omega,fun e=>by omega⟩,fun _=>by omega⟩
end Tp
