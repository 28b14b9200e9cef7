import Derived.Test.YthnoedjbhbkdeaaGreatDoorKWl
set_option maxRecDepth 100000
set_option maxHeartbeats 4000000
namespace Go.Proofs.YthnoedjbhbkdeaaGreatDoor
open Go.RowKit
variable {kk:Nat->Prop}
open Tp (X S)
theorem addStmt_if {N:Nat}(hE:StmtsW kk N) {d:Nat}{y:X}(hw:Tp.WX [y]) {s:S}(hs:SizeOf.sizeOf s.thn<=N) (hs2:SizeOf.sizeOf s.els<=N) (hwt:Tp.WS s.thn) (hwe:Tp.WS s.els) (hcode:s.code=2) {w:World}{B bx:Nat}{ia va ta ea:Option Addr}{tc ec:Nat}{v:Value}{l:List UInt8}(hva:va=some ⟨bx,0,none⟩) (hx:Ex1 w B y bx) (hsv:SV w B s ia va ta ea tc ec) (hb:Buf kk w B v l) (hr:Wr B w) (hd:d+1+max (Tp.DS s.thn) (Tp.DS s.els)<=500) (hl:(l++blanks d++[105,102,32]++(Tp.pxs [y]).flatten++[32,116,104,101,110,10]++branchB s.thn s.els d++[59,10]).length<=1000000000) :
  Calls Tryz.prog 148 #[v,.agg #[.int .i64 (s.code:Int),.int .i64 (s.pos:Int),.string (bs s.name),.pointer ia,.pointer va,.slice ta s.thn.length tc,.slice ea s.els.length ec],.int .i64 (d:Int)] w (Wrote kk B w (l++blanks d++[105,102,32]++(Tp.pxs [y]).flatten++[32,116,104,101,110,10]++branchB s.thn s.els d++[59,10])):=by
 have hd':(d:Int)<=500:=by omega
 have hal:∀ ob,Below w.heap.size w (w.alloc ob):=fun ob=>zb _ _
 have HBW:Hid (∀ ob,Bw kk B w (w.alloc ob)):=fun ob=>Bw.of (kk:=kk) (hal ob) hb.2
 have HC:Hid (∀ ob,Calls Tryz.prog 207 #[v,.int .i64 (d:Int)] (w.alloc ob) (Wrote kk B (w.alloc ob) (l++blanks d))):=fun ob=>zV (hb.below (hal ob)) d (by omega) (by simp only [List.length_append]at hl;omega)
 have HL:Hid ((l++blanks d++[105,102,32]++(Tp.pxs [y]).flatten++[32,116,104,101,110,10]++branchB s.thn s.els d++[59,10]).length<=1000000000):=hl
 have HR:Hid (Wr B w):=hr
 obtain⟨mf,hmf⟩:∃ mf,mf=l++blanks d++[105,102,32]++(Tp.pxs [y]).flatten++[32,116,104,101,110,10]++branchB s.thn s.els d++[59,10]:=⟨_,rfl⟩
 rw[<-hmf]
 have HMF:Hid (mf=l++blanks d++[105,102,32]++(Tp.pxs [y]).flatten++[32,116,104,101,110,10]++branchB s.thn s.els d++[59,10]):=hmf
 have HX:Hid (Ex1 w B y bx):=hx
 have HTT:Hid (∀ W v' m,Bw kk B w W->Buf kk W B v' m->(m++branchB s.thn s.els d).length<=1000000000->Calls Tryz.prog 209 #[v',.agg #[.int .i64 (s.code:Int),.int .i64 (s.pos:Int),.string (bs s.name),.pointer ia,.pointer va,.slice ta s.thn.length tc,.slice ea s.els.length ec],.int .i64 (d:Int)] W (Wrote kk B W (m++branchB s.thn s.els d))):=fun W v' m hW hB hlm=>jt hE hs hs2 hwt hwe (hsv.on hW) hB (hr.on hW) hd hlm
 clear hmf hl hx hr hal hb hsv
 subst hva
 generalize s.thn.length=tn at *
 generalize s.els.length=en at *
 generalize hx1:s.pos=x1 at *
 generalize hx2:s.name=x2 at *
 have hc2:((s.code:Nat):Int)=2:=by rw[hcode];rfl
 rw[hc2]at HTT ⊢
 clear hx1 hx2 hcode hc2
 go_enter Tryz.func148,Tryz.ntmps148
 go_wp2_with fail
 refine(HC.out _).mono ?_
 rintro e w3 ⟨v3,rfl,hbuf3,hbel3⟩
 have hblk:(w.alloc (.cells #[.int .i64 2,.int .i64 (x1:Int),.string (bs x2),.pointer ia,.pointer (some ⟨bx,0,none⟩),.slice ta tn tc,.slice ea en ec] 96)).heap[w.heap.size]?=some (.cells #[.int .i64 2,.int .i64 (x1:Int),.string (bs x2),.pointer ia,.pointer (some ⟨bx,0,none⟩),.slice ta tn tc,.slice ea en ec] 96 (0,0)):=zu _ _
 have F3:FX kk B w w.heap.size (.int .i64 2) (.int .i64 (x1:Int)) (.string (bs x2)) (.pointer ia) (.pointer (some ⟨bx,0,none⟩)) (.slice ta tn tc) (.slice ea en ec) w3 v3 (l++blanks d):=⟨hbuf3,(HBW.out _).trans hbel3,hbel3.keeps hblk (by decide)⟩
 obtain⟨k0,k2,k3,k4,k5,k6⟩:=zH F3.box
 have hlt3:=zc F3.box
 clear hblk hbuf3 hbel3
 have D3:Hid (FX kk B w w.heap.size (.int .i64 2) (.int .i64 (x1:Int)) (.string (bs x2)) (.pointer ia) (.pointer (some ⟨bx,0,none⟩)) (.slice ta tn tc) (.slice ea en ec) w3.drew v3 (l++blanks d)):=F3.old (zk w3)
 have H3:Hid (FX kk B w w.heap.size (.int .i64 2) (.int .i64 (x1:Int)) (.string (bs x2)) (.pointer ia) (.pointer (some ⟨bx,0,none⟩)) (.slice ta tn tc) (.slice ea en ec) w3 v3 (l++blanks d)):=F3
 clear F3 k2 k3 k5 k6
 have L1:Hid ((l++blanks d++[105,102,32]).length<=1000000000):=by have:=HL.out;unfold Hid;simp only [List.length_append]at this ⊢;omega
 have L2:Hid ((l++blanks d++[105,102,32]++(Tp.pxs [y]).flatten).length<=1000000000):=by have:=HL.out;unfold Hid;simp only [List.length_append]at this ⊢;omega
 have L3:Hid ((l++blanks d++[105,102,32]++(Tp.pxs [y]).flatten++[32,116,104,101,110,10]).length<=1000000000):=by have:=HL.out;unfold Hid;simp only [List.length_append]at this ⊢;omega
 have X1:Hid ((⟨#[105,102,32]⟩:ByteArray)=bs [105,102,32]):=rfl
 have X2:Hid ((⟨#[32,116,104,101,110,10]⟩:ByteArray)=bs [32,116,104,101,110,10]):=rfl
 go_wp2_with fail
 go_region_held3 (fun w'=>w'.cell? ⟨w.heap.size,4,none⟩=some (.pointer (some ⟨bx,0,none⟩))) (with_reducible (first|exact k4|exact D3.out.c4|exact(H3.out.alloc _).dr.c4|exact((H3.out.alloc _).alloc _).dr.c4|exact(D3.out.alloc _).c4|exact((D3.out.alloc _).alloc _).c4|exact H5.out.c4|exact(H5.out.alloc _).c4|exact H6.out.c4|exact(H6.out.alloc _).c4|exact H7.out.c4)) (first|(go_at_call 111;refine Calls.mono (FX.ex (kk:=kk) (B:=B) (w0:=w) (bx:=w.heap.size) (v0:=.int .i64 2) (v1:=.int .i64 (x1:Int)) (v2:=.string (bs x2)) (v3:=.pointer ia) (v4:=.pointer (some ⟨bx,0,none⟩)) (v5:=.slice ta tn tc) (v6:=.slice ea en ec) (m:=l++blanks d++[105,102,32]) (y:=y) ?f hw HX HR L2) ?_;(case f=>with_reducible (first|exact H5.out|exact H5.out.alloc _));rintro e w6 ⟨v6,rfl,f6,b6⟩;have H6:Hid (FX kk B w w.heap.size (.int .i64 2) (.int .i64 (x1:Int)) (.string (bs x2)) (.pointer ia) (.pointer (some ⟨bx,0,none⟩)) (.slice ta tn tc) (.slice ea en ec) w6 v6 (l++blanks d++[105,102,32]++(Tp.pxs [y]).flatten)):=f6;have T6:=fun sb x (h:SB _ sb x)=>SB.on h b6;clear f6 b6)|(go_at_call 102;have _g:=H6;refine Calls.mono (FX.all (kk:=kk) (B:=B) (w0:=w) (bx:=w.heap.size) (v0:=.int .i64 2) (v1:=.int .i64 (x1:Int)) (v2:=.string (bs x2)) (v3:=.pointer ia) (v4:=.pointer (some ⟨bx,0,none⟩)) (v5:=.slice ta tn tc) (v6:=.slice ea en ec) (m:=l++blanks d++[105,102,32]++(Tp.pxs [y]).flatten) (s:=[32,116,104,101,110,10]) ?f ?sb X2 L3) ?_;(case f=>with_reducible (first|exact H6.out|exact H6.out.alloc _));(case sb=>with_reducible (first|exact SB.new _ _ _ rfl|exact T6 _ _ (SB.new _ _ _ rfl)|exact T6 _ _ (T5 _ _ (SB.new _ _ _ rfl).dr)|exact T6 _ _ (T5 _ _ (SB.new _ _ _ (by simp)).dr)|exact T6 _ _ (T5 _ _ ((SB.new _ _ _ rfl).alloc _).dr)));rintro e w7 ⟨v7,rfl,f7,b7⟩;have H7:Hid (FX kk B w w.heap.size (.int .i64 2) (.int .i64 (x1:Int)) (.string (bs x2)) (.pointer ia) (.pointer (some ⟨bx,0,none⟩)) (.slice ta tn tc) (.slice ea en ec) w7 v7 (l++blanks d++[105,102,32]++(Tp.pxs [y]).flatten++[32,116,104,101,110,10])):=f7;clear f7 b7 _g)|(go_at_call 102;refine Calls.mono (FX.all (kk:=kk) (B:=B) (w0:=w) (bx:=w.heap.size) (v0:=.int .i64 2) (v1:=.int .i64 (x1:Int)) (v2:=.string (bs x2)) (v3:=.pointer ia) (v4:=.pointer (some ⟨bx,0,none⟩)) (v5:=.slice ta tn tc) (v6:=.slice ea en ec) (m:=l++blanks d) (s:=[105,102,32]) ?f ?sb X1 L1) ?_;(case f=>with_reducible (first|exact(H3.out.alloc _).dr|exact((H3.out.alloc _).alloc _).dr|exact D3.out.alloc _|exact(D3.out.alloc _).alloc _));(case sb=>with_reducible (first|exact(SB.new _ _ _ rfl).dr|exact(SB.new _ _ _ (by simp)).dr|exact((SB.new _ _ _ rfl).alloc _).dr|exact((SB.new _ _ _ (by simp)).alloc _).dr));rintro e w5 ⟨v5,rfl,f5,b5⟩;have H5:Hid (FX kk B w w.heap.size (.int .i64 2) (.int .i64 (x1:Int)) (.string (bs x2)) (.pointer ia) (.pointer (some ⟨bx,0,none⟩)) (.slice ta tn tc) (.slice ea en ec) w5 v5 (l++blanks d++[105,102,32])):=f5;have T5:=fun sb x (h:SB _ sb x)=>SB.on h b5;clear f5 b5))
 all_goals
  obtain⟨j0,j2,j3,j4,j5,j6⟩:=zH H7.out.box
  have hlt7:=zc H7.out.box
  have j1:w7.cell? ⟨w.heap.size,1,none⟩=some (.int .i64 (x1:Int)):=(za H7.out.box).trans rfl
  have hcall:=HTT.out w7 v7 _ H7.out.bw H7.out.buf (by have:=HL.out;simp only [List.length_append]at this ⊢;omega)
  have HT9:Hid (Calls Tryz.prog 209 #[v7,.agg #[.int .i64 2,.int .i64 (x1:Int),.string (bs x2),.pointer ia,.pointer (some ⟨bx,0,none⟩),.slice ta tn tc,.slice ea en ec],.int .i64 (d:Int)] w7 (Wrote kk B w7 (l++blanks d++[105,102,32]++(Tp.pxs [y]).flatten++[32,116,104,101,110,10]++branchB s.thn s.els d))):=hcall
  clear hcall
  go_wp2_with fail
  refine HT9.out.mono ?_
  rintro e wZ ⟨vZ,rfl,hbufZ,hbelZ⟩
  have hBZ:=H7.out.bw.trans hbelZ
  have hcall:=addAll1 hbufZ [59,10] (by have:=HL.out;simp only [List.length_append]at this ⊢;omega)
  rw[show l++blanks d++[105,102,32]++(Tp.pxs [y]).flatten++[32,116,104,101,110,10]++branchB s.thn s.els d++[59,10]=mf from HMF.out.symm]at hcall
  have HA9:Hid (Calls Tryz.prog 102 #[vZ,.slice (some ⟨wZ.heap.size,0,none⟩) 1 1] (wZ.alloc (.cells #[.string ⟨#[59,10]⟩] 9)) (Wrote kk B wZ mf)):=hcall
  clear hcall hbufZ
  go_wp2_with fail
  refine HA9.out.mono ?_
  rintro e w9 ⟨v9,rfl,hbuf9,hbel9⟩
  have HB:Hid (Buf kk w9 B v9 mf):=hbuf9
  have HBB:Hid (Bw kk B w w9):=hBZ.trans hbel9
  clear hbuf9
  go_wp2_with fail
  go_ret
  exact⟨_,rfl,HB.out,HBB.out⟩
theorem vL {pos d:Nat}{nm:List UInt8}{y:X}(hw:Tp.WX [y]) {w:World}{B bx:Nat}{ta ea:Option Addr}{tc ec:Nat}{v:Value}{l:List UInt8}(hx:Ex1 w B y bx) (hb:Buf kk w B v l) (hr:Wr B w) (hd:d<=500) (hl:(l++blanks d++nm++[32,58,61,32]++(Tp.pxs [y]).flatten++[59,10]).length<=1000000000) :
  Calls Tryz.prog 148 #[v,.agg #[.int .i64 1,.int .i64 (pos:Int),.string (bs nm),.pointer none,.pointer (some ⟨bx,0,none⟩),.slice ta 0 tc,.slice ea 0 ec],.int .i64 (d:Int)] w (Wrote kk B w (l++blanks d++nm++[32,58,61,32]++(Tp.pxs [y]).flatten++[59,10])):=by
 have hd':(d:Int)<=500:=by omega
 have hal:∀ ob,Below w.heap.size w (w.alloc ob):=fun ob=>zb _ _
 have HBW:Hid (∀ ob,Bw kk B w (w.alloc ob)):=fun ob=>Bw.of (kk:=kk) (hal ob) hb.2
 have HC:Hid (∀ ob,Calls Tryz.prog 207 #[v,.int .i64 (d:Int)] (w.alloc ob) (Wrote kk B (w.alloc ob) (l++blanks d))):=fun ob=>zV (hb.below (hal ob)) d (by omega) (by simp only [List.length_append]at hl;omega)
 have HL:Hid ((l++blanks d++nm++[32,58,61,32]++(Tp.pxs [y]).flatten++[59,10]).length<=1000000000):=hl
 have HX:Hid (Ex1 w B y bx):=hx
 have HR:Hid (Wr B w):=hr
 obtain⟨mf,hmf⟩:∃ mf,mf=l++blanks d++nm++[32,58,61,32]++(Tp.pxs [y]).flatten++[59,10]:=⟨_,rfl⟩
 rw[<-hmf]
 have HMF:Hid (mf=l++blanks d++nm++[32,58,61,32]++(Tp.pxs [y]).flatten++[59,10]):=hmf
 obtain⟨m0',hm0⟩:∃ m0',m0'=l++blanks d:=⟨_,rfl⟩
 have HM0:Hid (m0'=l++blanks d):=hm0
 have hl0:m0'.length+nm.length<=2000000000:=by rw[hm0];simp only [List.length_append]at hl ⊢;omega
 clear hmf hl hx hr hal hb hm0
 go_enter Tryz.func148,Tryz.ntmps148
 go_wp2_with fail
 refine(HC.out _).mono ?_
 rintro e w2 ⟨v2,rfl,hbuf2,hbel2⟩
 have hblk:(w.alloc (.cells #[.int .i64 1,.int .i64 (pos:Int),.string (bs nm),.pointer none,.pointer (some ⟨bx,0,none⟩),.slice ta 0 tc,.slice ea 0 ec] 96)).heap[w.heap.size]?=some (.cells #[.int .i64 1,.int .i64 (pos:Int),.string (bs nm),.pointer none,.pointer (some ⟨bx,0,none⟩),.slice ta 0 tc,.slice ea 0 ec] 96 (0,0)):=zu _ _
 have hblk2:=hbel2.keeps hblk (by decide)
 have hB2:Bw kk B w w2:=(HBW.out _).trans hbel2
 obtain⟨g0,g2,g3,g4,g5,g6⟩:=zH hblk2
 have hlt2:=zc hblk2
 rw[<-HM0.out]at hbuf2
 clear hblk hbel2 g4 g5 g6
 go_wp2_with (at_builtin;refine yt rfl _ _ rfl hbuf2 nm rfl rfl ?c1 ?_)
 case c1=>exact hl0
 intro v3 w3 hbuf3 hbel3
 have hblk3:=hbel3.keeps hblk2 (by decide)
 have hB3:Bw kk B w w3:=hB2.trans hbel3
 obtain⟨k0,k2,k3,k4,k5,k6⟩:=zH hblk3
 have hlt3:=zc hblk3
 have hd3:=zk w3
 have hbuf3d:=hbuf3.below hd3
 have hB3d:Bw kk B w w3.drew:=hB3.trans (Bw.of (kk:=kk) hd3 hbuf3.2)
 have hblk3d:=(Bw.of (kk:=kk) hd3 hbuf3.2).keeps hblk3 (by decide)
 rw[HM0.out]at hbuf3d
 have hcall:=addAll1 hbuf3d [32,58,61,32] (by have:=HL.out;simp only [List.length_append]at this ⊢;omega)
 have HA:Hid (Calls Tryz.prog 102 #[v3,.slice (some ⟨w3.drew.heap.size,0,none⟩) 1 1] (w3.drew.alloc (.cells #[.string ⟨#[32,58,61,32]⟩] 9)) (Wrote kk B w3.drew (l++blanks d++nm++[32,58,61,32]))):=hcall
 clear hcall hbel3 k2 k5 k6 g0 g2 g3 hbuf2
 have q4:w3.drew.cell? ⟨w.heap.size,4,none⟩=some (.pointer (some ⟨bx,0,none⟩)):=(zH hblk3d).2.2.2.1
 have HK:Hid (∀ ob,(w3.drew.alloc ob).cell? ⟨w.heap.size,4,none⟩=some (.pointer (some ⟨bx,0,none⟩))):=fun ob=>z7 q4 ob
 go_wp2_with fail
 go_region_held3 (fun w'=>w'.cell? ⟨w.heap.size,4,none⟩=some (.pointer (some ⟨bx,0,none⟩))) (first|(exact k4)|(exact q4)|(exact HK.out _)|(exact q5)|(exact q6)) (first|(go_at_call 102;refine HA.out.mono ?_;rintro e w5 ⟨v5,rfl,hbuf5,hbel5⟩;have hblk5:=hbel5.keeps hblk3d (by decide);have hB5:=hB3d.trans hbel5;have q5:w5.cell? ⟨w.heap.size,4,none⟩=some (.pointer (some ⟨bx,0,none⟩)):=(zH hblk5).2.2.2.1)|(go_at_call 111;refine(ys _ y zn hw w5 B bx v5 _ (HX.out.on hB5) hbuf5 (HR.out.on hB5) (by have:=HL.out;simp only [List.length_append]at this ⊢;omega)).mono ?_;rintro e w6 ⟨v6,rfl,hbuf6,hbel6⟩;have hblk6:=hbel6.keeps hblk5 (by decide);have q6:w6.cell? ⟨w.heap.size,4,none⟩=some (.pointer (some ⟨bx,0,none⟩)):=(zH hblk6).2.2.2.1))
 all_goals
  have hB6:=hB5.trans hbel6
  have hcall:=addAll1 hbuf6 [59,10] HL.out
  rw[<-HMF.out]at hcall
  have HA2:Hid (Calls Tryz.prog 102 #[v6,.slice (some ⟨w6.heap.size,0,none⟩) 1 1] (w6.alloc (.cells #[.string ⟨#[59,10]⟩] 9)) (Wrote kk B w6 mf)):=hcall
  clear hcall hbuf6 hbuf5 hbuf3 hbuf3d
  go_wp2_with fail
  refine HA2.out.mono ?_
  rintro e w7 ⟨v7,rfl,hbuf7,hbel7⟩
  have HB:Hid (Buf kk w7 B v7 mf):=hbuf7
  have HBB:Hid (Bw kk B w w7):=hB6.trans hbel7
  clear hbuf7
  go_wp2_with fail
  go_ret
  exact⟨_,rfl,HB.out,HBB.out⟩
theorem exact_of {f:Nat}{args:Array Value}{W:World}{B:Nat}{v:Value}{m m':List UInt8}(hb:Buf kk W B v m) (h:∀ K:Nat->Prop,Buf K W B v m->Calls Tryz.prog f args W (Wrote K B W m')) :
  Calls Tryz.prog f args W fun e w'=>∃ v',e=.returned v'/\Buf kk w' B v' m'/\Bw kk B W w'/\Exact v v' W w':=by
 have hown:=hb.own
 have hle:=hb.le
 have hnext:∀ v' w',Exact v v' W w'->w'.ownsRow B 5 1 v' m'.length (u8s m')->Buf kk w' B v' m':=fun _ _ a b=>hb.next a b
 have hbw:∀ v' w',Below B W w'->Lib.OthersKept 5 none W w'->Exact v v' W w'->Bw kk B W w':=fun v' w' a b c=>⟨a,b,fun k hk hl=>c.block k hl (hb.kp k hk).2⟩
 clear hb
 obtain⟨K,hK⟩:∃ K:Nat->Prop,K=fun k=>k<W.heap.size/\v.ownBlock≠some k:=⟨_,rfl⟩
 have hk:∀ k,K k↔(k<W.heap.size/\v.ownBlock≠some k):=fun k=>by subst hK;exact Iff.rfl
 refine(h K ⟨hown,hle,fun k h=>(hk k).1 h⟩).mono ?_
 rintro e w' ⟨v',h1,h2,h3⟩
 have h4:=h3.toBelow
 have h5:=h3.oth
 have h6:=h3.kp
 have h7:=h2.kp
 have h8:=h2.own
 have hx:Exact v v' W w':=⟨h4.size,fun k hl hn=>h6 k ((hk k).2 ⟨hl,hn⟩) hl,fun g hg=>by
  by_cases h9:v.ownBlock=some g
  ·exact Or.inl h9
  ·refine Or.inr ?_
   by_cases h0:W.heap.size<=g
   ·exact h0
   ·exact absurd hg (h7 g ((hk g).2 ⟨by omega,h9⟩)).2⟩
 exact⟨v',h1,hnext v' w' hx h8,hbw v' w' h4 h5 hx,hx⟩
def BB (W:World) (sb:Nat) (n:Int) (v:Value):Prop:=W.heap[sb]?=some (.cells #[.int .u8 n] 5 (0,0))/\v.ownBlock≠some sb
theorem BB.new {W:World}{B:Nat}{v:Value}{m:List UInt8}(h:Buf kk W B v m) (n:Int) (k:Nat) (hk:k=W.heap.size):BB (W.alloc (.cells #[.int .u8 n] 5)) k n v:=by
 subst hk
 exact⟨zu _ _,fun e=>Nat.lt_irrefl _ (h.own.lt _ e).2⟩
theorem BB.alloc {W:World}{sb:Nat}{n:Int}{v:Value}(h:BB W sb n v) (ob:Obj):BB (W.alloc ob) sb n v:=⟨(Below.heap_alloc W ob sb (zc h.1)).trans h.1,h.2⟩
theorem BB.dr {W:World}{sb:Nat}{n:Int}{v:Value}(h:BB W sb n v):BB W.drew sb n v:=h
theorem BB.on {W W':World}{sb:Nat}{n:Int}{v v':Value}(h:BB W sb n v) (k:Exact v v' W W'):BB W' sb n v' :=
 ⟨(k.block sb (zc h.1) h.2).trans h.1,fun e=>(k.lies sb e).elim h.2 (Nat.not_le.2 (zc h.1))⟩
theorem FX.step_byte {ops:Array Oper}{o:Oper}{a:Act}{K:Act->World->Prop}{Q:Exit->Act->World->Prop}{E:Prop}(hg:o.guard=none) (s x:Operand) (hop:o.op=Op.call { callee:=Callee.builtin Builtin.append,args:=#[s,x],argTypes:=#[88,88] })
  {B:Nat} {w0:World} {bx:Nat} {v0 v1 v2 v3 v4 v5 v6:Value} {W:World} {v:Value} {m:List UInt8} (h:FX kk B w0 bx v0 v1 v2 v3 v4 v5 v6 W v m) (hs:a.eval s=v) {n:Int} (c:UInt8) (hn:n=c.toNat) (hbx:∃ sb,a.eval x=.slice (some ⟨sb,0,none⟩) 1 1/\BB W sb n v) (hl:Hid (m.length+1<=1000000000))
  (hK:∀ v' w',FX kk B w0 bx v0 v1 v2 v3 v4 v5 v6 w' v' (m++[c])->Exact v v' W w'->K (a.put o.dst v') w') :
  if Region.wanted o (yielded ops a.tmps)=true then Oper.wp Tryz.prog o a W K Q else E:=by
 subst hn
 obtain⟨i0,hi0,hz0,hz1,hz2⟩:=info_parts Tryz.infoU8
 have hl:=hl.out
 obtain⟨sb,hx,hbb⟩:=hbx
 refine zD hg s x 88 hop B 5 i0 (.int .u8 0) 1 1 Tryz.underlying88 hi0 hz0 hz1 hz2 rfl (by decide) v m.length (u8s m) hs h.buf.1 ⟨sb,0,none⟩ 1 1 [.int .u8 (c.toNat:Int)] hx rfl ?c1 ?c2 ?c3 ?c4 h.buf.2 ?_
 case c1 =>
  intro j u hj
  rw[Addr.add_lit,za hbb.1,Nat.zero_add]
  simpa using hj
 case c2=>intro u hu;simp at hu;subst hu;rfl
 case c3=>unfold maxLen;omega
 case c4=>omega
 intro v' w' h1 h2 h4
 have hex:=Exact.of h2 h4
 refine hK v' w' (h.after (h.buf.next hex ?_) (h.buf.grown h2)) hex
 rw[yC,List.length_append]
 exact h1
theorem FX.exX {B:Nat}{w0:World}{bx:Nat}{v0 v1 v2 v3 v4 v5 v6:Value}{W:World}{v:Value}{m:List UInt8}(h:FX kk B w0 bx v0 v1 v2 v3 v4 v5 v6 W v m) {y:X}{b:Nat}(hw:Tp.WX [y]) (hx:Hid (Ex1 w0 B y b)) (hr:Hid (Wr B w0)) (hl:Hid ((m++(Tp.pxs [y]).flatten).length<=1000000000)) :
  Calls Tryz.prog 111 #[v,.pointer (some ⟨b,0,none⟩)] W fun e w'=>∃ v',e=.returned v'/\FX kk B w0 bx v0 v1 v2 v3 v4 v5 v6 w' v' (m++(Tp.pxs [y]).flatten)/\Exact v v' W w':=by
 have hx':=hx.out.on h.bw
 have hr':=hr.out.on h.bw
 refine(exact_of h.buf (m':=m++(Tp.pxs [y]).flatten) fun K hb=>ys _ y zn hw W B b v m hx' hb hr' hl.out).mono ?_
 rintro e w' ⟨v',h1,h2,h3,h4⟩
 exact⟨v',h1,h.after h2 h3,h4⟩
theorem vK {pos d:Nat}{nm:List UInt8}{z y:X}(hwz:Tp.WX [z]) (hw:Tp.WX [y]) {w:World}{B bi bx:Nat}{ta ea:Option Addr}{tc ec:Nat}{v:Value}{l:List UInt8}(hz:Ex1 w B z bi) (hx:Ex1 w B y bx) (hb:Buf kk w B v l) (hr:Wr B w) (hd:d<=500) (hl:(l++blanks d++nm++[91]++(Tp.pxs [z]).flatten++[93]++[32,58,61,32]++(Tp.pxs [y]).flatten++[59,10]).length<=1000000000) :
  Calls Tryz.prog 148 #[v,.agg #[.int .i64 1,.int .i64 (pos:Int),.string (bs nm),.pointer (some ⟨bi,0,none⟩),.pointer (some ⟨bx,0,none⟩),.slice ta 0 tc,.slice ea 0 ec],.int .i64 (d:Int)] w (Wrote kk B w (l++blanks d++nm++[91]++(Tp.pxs [z]).flatten++[93]++[32,58,61,32]++(Tp.pxs [y]).flatten++[59,10])):=by
 have hd':(d:Int)<=500:=by omega
 have hal:∀ ob,Below w.heap.size w (w.alloc ob):=fun ob=>zb _ _
 have HBW:Hid (∀ ob,Bw kk B w (w.alloc ob)):=fun ob=>Bw.of (kk:=kk) (hal ob) hb.2
 have HC:Hid (∀ ob,Calls Tryz.prog 207 #[v,.int .i64 (d:Int)] (w.alloc ob) (Wrote kk B (w.alloc ob) (l++blanks d))):=fun ob=>zV (hb.below (hal ob)) d (by omega) (by simp only [List.length_append]at hl;omega)
 have HL:Hid ((l++blanks d++nm++[91]++(Tp.pxs [z]).flatten++[93]++[32,58,61,32]++(Tp.pxs [y]).flatten++[59,10]).length<=1000000000):=hl
 have HZ:Hid (Ex1 w B z bi):=hz
 have HX:Hid (Ex1 w B y bx):=hx
 have HR:Hid (Wr B w):=hr
 obtain⟨mf,hmf⟩:∃ mf,mf=l++blanks d++nm++[91]++(Tp.pxs [z]).flatten++[93]++[32,58,61,32]++(Tp.pxs [y]).flatten++[59,10]:=⟨_,rfl⟩
 rw[<-hmf]
 have HMF:Hid (mf=l++blanks d++nm++[91]++(Tp.pxs [z]).flatten++[93]++[32,58,61,32]++(Tp.pxs [y]).flatten++[59,10]):=hmf
 obtain⟨m0',hm0⟩:∃ m0',m0'=l++blanks d:=⟨_,rfl⟩
 have HM0:Hid (m0'=l++blanks d):=hm0
 have hl0:m0'.length+nm.length<=2000000000:=by rw[hm0];simp only [List.length_append]at hl ⊢;omega
 have L1:Hid ((l++blanks d++nm).length+1<=1000000000):=by unfold Hid;simp only [List.length_append,List.length_cons,List.length_nil]at hl ⊢;omega
 have L2:Hid ((l++blanks d++nm++[91]++(Tp.pxs [z]).flatten).length<=1000000000):=by unfold Hid;simp only [List.length_append]at hl ⊢;omega
 have L3:Hid ((l++blanks d++nm++[91]++(Tp.pxs [z]).flatten).length+1<=1000000000):=by unfold Hid;simp only [List.length_append,List.length_cons,List.length_nil]at hl ⊢;omega
 clear hmf hl hx hz hr hal hb hm0
 go_enter Tryz.func148,Tryz.ntmps148
 go_wp2_with fail
 refine(HC.out _).mono ?_
 rintro e w2 ⟨v2,rfl,hbuf2,hbel2⟩
 have hblk:(w.alloc (.cells #[.int .i64 1,.int .i64 (pos:Int),.string (bs nm),.pointer (some ⟨bi,0,none⟩),.pointer (some ⟨bx,0,none⟩),.slice ta 0 tc,.slice ea 0 ec] 96)).heap[w.heap.size]?=some (.cells #[.int .i64 1,.int .i64 (pos:Int),.string (bs nm),.pointer (some ⟨bi,0,none⟩),.pointer (some ⟨bx,0,none⟩),.slice ta 0 tc,.slice ea 0 ec] 96 (0,0)):=zu _ _
 have hblk2:=hbel2.keeps hblk (by decide)
 have hB2:Bw kk B w w2:=(HBW.out _).trans hbel2
 obtain⟨g0,g2,g3,g4,g5,g6⟩:=zH hblk2
 have hlt2:=zc hblk2
 rw[<-HM0.out]at hbuf2
 clear hblk hbel2 g4 g5 g6
 go_wp2_with (at_builtin;refine yt rfl _ _ rfl hbuf2 nm rfl rfl ?c1 ?_)
 case c1=>exact hl0
 intro v3 w3 hbuf3 hbel3
 rw[HM0.out]at hbuf3
 have F3:FX kk B w w.heap.size (.int .i64 1) (.int .i64 (pos:Int)) (.string (bs nm)) (.pointer (some ⟨bi,0,none⟩)) (.pointer (some ⟨bx,0,none⟩)) (.slice ta 0 tc) (.slice ea 0 ec) w3 v3 (l++blanks d++nm):=⟨hbuf3,hB2.trans hbel3,hbel3.keeps hblk2 (by decide)⟩
 obtain⟨k0,k2,k3,k4,k5,k6⟩:=zH F3.box
 have hlt3:=zc F3.box
 have H3:Hid (FX kk B w w.heap.size (.int .i64 1) (.int .i64 (pos:Int)) (.string (bs nm)) (.pointer (some ⟨bi,0,none⟩)) (.pointer (some ⟨bx,0,none⟩)) (.slice ta 0 tc) (.slice ea 0 ec) w3 v3 (l++blanks d++nm)):=F3
 have D3:Hid (FX kk B w w.heap.size (.int .i64 1) (.int .i64 (pos:Int)) (.string (bs nm)) (.pointer (some ⟨bi,0,none⟩)) (.pointer (some ⟨bx,0,none⟩)) (.slice ta 0 tc) (.slice ea 0 ec) w3.drew v3 (l++blanks d++nm)):=F3.dr
 clear hbel3 hbuf3 hblk2 hB2 g0 g2 g3 hlt2 F3 k2 k5 k6
 go_wp2_with fail
 go_region_held3 (fun w'=>w'.cell? ⟨w.heap.size,3,none⟩=some (.pointer (some ⟨bi,0,none⟩))) (with_reducible (first|exact k3|exact D3.out.c3|exact(H3.out.alloc _).dr.c3|exact((H3.out.alloc _).alloc _).dr.c3|exact(D3.out.alloc _).c3|exact((D3.out.alloc _).alloc _).c3|exact H5.out.c3|exact(H5.out.alloc _).c3|exact H6.out.c3|exact(H6.out.alloc _).c3|exact H7.out.c3)) (first|(go_at_call 111;refine Calls.mono (FX.exX (kk:=kk) (B:=B) (w0:=w) (bx:=w.heap.size) (v0:=.int .i64 1) (v1:=.int .i64 (pos:Int)) (v2:=.string (bs nm)) (v3:=.pointer (some ⟨bi,0,none⟩)) (v4:=.pointer (some ⟨bx,0,none⟩)) (v5:=.slice ta 0 tc) (v6:=.slice ea 0 ec) (m:=l++blanks d++nm++[91]) (y:=z) ?f hwz HZ HR L2) ?_;(case f=>with_reducible (first|exact H5.out|exact H5.out.alloc _));rintro e w6 ⟨v6,rfl,f6,b6⟩;have H6:Hid (FX kk B w w.heap.size (.int .i64 1) (.int .i64 (pos:Int)) (.string (bs nm)) (.pointer (some ⟨bi,0,none⟩)) (.pointer (some ⟨bx,0,none⟩)) (.slice ta 0 tc) (.slice ea 0 ec) w6 v6 (l++blanks d++nm++[91]++(Tp.pxs [z]).flatten)):=f6;have X6:=zh b6;clear f6 b6)|(refine FX.step_byte (kk:=kk) (B:=B) (w0:=w) (bx:=w.heap.size) (v0:=.int .i64 1) (v1:=.int .i64 (pos:Int)) (v2:=.string (bs nm)) (v3:=.pointer (some ⟨bi,0,none⟩)) (v4:=.pointer (some ⟨bx,0,none⟩)) (v5:=.slice ta 0 tc) (v6:=.slice ea 0 ec) (m:=l++blanks d++nm) (v:=v3) rfl (.tmp 21) (.tmp 22) rfl ?f ?hs 91 (n:=91) rfl ?bb L1 ?_;(case hs=>simp[Act.eval]);(case f=>with_reducible (first|exact(H3.out.alloc _).dr|exact((H3.out.alloc _).alloc _).dr|exact D3.out.alloc _|exact(D3.out.alloc _).alloc _));(case bb=>refine⟨_,rfl,?_⟩;with_reducible (first|exact(BB.new H3.out.buf _ _ rfl).dr|exact(BB.new (H3.out.alloc _).buf _ _ (by simp)).dr|exact((BB.new H3.out.buf _ _ rfl).alloc _).dr));intro v5 w5 f5 b5;have H5:Hid (FX kk B w w.heap.size (.int .i64 1) (.int .i64 (pos:Int)) (.string (bs nm)) (.pointer (some ⟨bi,0,none⟩)) (.pointer (some ⟨bx,0,none⟩)) (.slice ta 0 tc) (.slice ea 0 ec) w5 v5 (l++blanks d++nm++[91])):=f5;have X5:=zh b5;clear f5 b5)|(refine FX.step_byte (kk:=kk) (B:=B) (w0:=w) (bx:=w.heap.size) (v0:=.int .i64 1) (v1:=.int .i64 (pos:Int)) (v2:=.string (bs nm)) (v3:=.pointer (some ⟨bi,0,none⟩)) (v4:=.pointer (some ⟨bx,0,none⟩)) (v5:=.slice ta 0 tc) (v6:=.slice ea 0 ec) (m:=l++blanks d++nm++[91]++(Tp.pxs [z]).flatten) (v:=v6) rfl (.tmp 26) (.tmp 27) rfl ?f ?hs 93 (n:=93) rfl ?bb L3 ?_;(case hs=>simp[Act.eval]);(case f=>with_reducible (first|exact H6.out|exact H6.out.alloc _));(case bb=>refine⟨_,rfl,?_⟩;with_reducible (first|exact BB.new H6.out.buf _ _ rfl|exact(BB.new H5.out.buf _ _ rfl).on X6.out|exact((BB.new H3.out.buf _ _ rfl).dr.on X5.out).on X6.out|exact((BB.new (H3.out.alloc _).buf _ _ (by simp)).dr.on X5.out).on X6.out|exact(((BB.new H3.out.buf _ _ rfl).alloc _).dr.on X5.out).on X6.out));intro v7 w7 f7 b7;have H7:Hid (FX kk B w w.heap.size (.int .i64 1) (.int .i64 (pos:Int)) (.string (bs nm)) (.pointer (some ⟨bi,0,none⟩)) (.pointer (some ⟨bx,0,none⟩)) (.slice ta 0 tc) (.slice ea 0 ec) w7 v7 (l++blanks d++nm++[91]++(Tp.pxs [z]).flatten++[93])):=f7;clear f7 b7))
 all_goals
  obtain⟨j0,j2,j3,j4,j5,j6⟩:=zH H7.out.box
  have hlt7:=zc H7.out.box
  have hd7:=H7.out.dr
  have hcall:=addAll1 hd7.buf [32,58,61,32] (by have:=HL.out;simp only [List.length_append]at this ⊢;omega)
  have HA:Hid (Calls Tryz.prog 102 #[v7,.slice (some ⟨w7.drew.heap.size,0,none⟩) 1 1] (w7.drew.alloc (.cells #[.string ⟨#[32,58,61,32]⟩] 9)) (Wrote kk B w7.drew (l++blanks d++nm++[91]++(Tp.pxs [z]).flatten++[93]++[32,58,61,32]))):=hcall
  have hblk7d:=hd7.box
  have hB7d:=hd7.bw
  clear hcall
  have q4:w7.drew.cell? ⟨w.heap.size,4,none⟩=some (.pointer (some ⟨bx,0,none⟩)):=hd7.c4
  clear hd7 j2 j5 j6 k0 k3 k4 j3
  have HK:Hid (∀ ob,(w7.drew.alloc ob).cell? ⟨w.heap.size,4,none⟩=some (.pointer (some ⟨bx,0,none⟩))):=fun ob=>z7 q4 ob
  go_wp2_with fail
  go_region_held3 (fun w'=>w'.cell? ⟨w.heap.size,4,none⟩=some (.pointer (some ⟨bx,0,none⟩))) (first|(exact j4)|(exact q4)|(exact HK.out _)|(exact q8)|(exact q9)) (first|(go_at_call 102;refine HA.out.mono ?_;rintro e w8 ⟨v8,rfl,hbuf8,hbel8⟩;have hblk8:=hbel8.keeps hblk7d (by decide);have hB8:=hB7d.trans hbel8;have q8:w8.cell? ⟨w.heap.size,4,none⟩=some (.pointer (some ⟨bx,0,none⟩)):=(zH hblk8).2.2.2.1)|(go_at_call 111;refine(ys _ y zn hw w8 B bx v8 _ (HX.out.on hB8) hbuf8 (HR.out.on hB8) (by have:=HL.out;simp only [List.length_append]at this ⊢;omega)).mono ?_;rintro e w9 ⟨v9,rfl,hbuf9,hbel9⟩;have hblk9:=hbel9.keeps hblk8 (by decide);have q9:w9.cell? ⟨w.heap.size,4,none⟩=some (.pointer (some ⟨bx,0,none⟩)):=(zH hblk9).2.2.2.1))
 all_goals
  have hB9:=hB8.trans hbel9
  have hcall:=addAll1 hbuf9 [59,10] HL.out
  rw[<-HMF.out]at hcall
  have HA2:Hid (Calls Tryz.prog 102 #[v9,.slice (some ⟨w9.heap.size,0,none⟩) 1 1] (w9.alloc (.cells #[.string ⟨#[59,10]⟩] 9)) (Wrote kk B w9 mf)):=hcall
  clear hcall hbuf9 hbuf8
  go_wp2_with fail
  refine HA2.out.mono ?_
  rintro e wZ ⟨vZ,rfl,hbufZ,hbelZ⟩
  have HB:Hid (Buf kk wZ B vZ mf):=hbufZ
  have HBB:Hid (Bw kk B w wZ):=hB9.trans hbelZ
  clear hbufZ
  go_wp2_with fail
  go_ret
  exact⟨_,rfl,HB.out,HBB.out⟩
theorem ps_len {ss:List S}(hw:Tp.WS ss) (d:Nat):ss.length<=(Tp.psts ss d).flatten.length:=by
 induction ss with
 | nil=>simp
 | cons s ss ih =>
  rw[Tp.psts_cons,List.flatten_append,List.length_append,List.length_cons]
  have h2:1<=(Tp.ps1 s d).flatten.length:=by
   obtain⟨code,pos,nm,ix,v,th,el⟩:=s
   rw[Tp.WS]at hw
   rcases hw.1 with h1|h1|h1|⟨hc|hc,h1⟩|h1
   ·rw[h1.1,Tp.ps1_1];simp[Tp.mSemi];omega
   ·rw[h1.1,Tp.ps1_2];simp[Tp.mSemi];omega
   ·rw[h1.1,Tp.ps1_3];simp[Tp.mSemi];omega
   ·rw[hc,Tp.ps1_4];simp[Tp.mSemi];omega
   ·rw[hc,Tp.ps1_5];simp[Tp.mSemi];omega
   ·rw[h1.1,Tp.ps1_6];simp[Tp.mSemi];omega
  have hw2:Tp.WS ss:=by obtain⟨⟩:=s;rw[Tp.WS]at hw;exact hw.2
  have:=ih hw2
  omega
theorem stmts_of {N:Nat}(hE:StmtW kk N):StmtsW kk (N+1):=by
 intro ss hs hw w B d sa sc cs v l hx ho hb hr hd hl
 rcases ho with⟨h1,h2⟩|⟨g,cap,cur,h1,h2,h3,h4,h5,h6,h7⟩
 ·have e:ss=[]:=List.eq_nil_of_length_eq_zero h2
  subst e
  rw[h1]
  have:=xM (d:=d) hb
  simpa[Tp.psts,Tp.pst] using this
 ·rw[h1]
  have:=ps_len hw d
  exact xL hE hs hw hx rfl (by simp only [List.length_append]at hl;omega) h2 h3 h7 hb hr hd hl
theorem stmt_of {N:Nat}(hE:StmtsW kk N):StmtW kk (N+1):=by
 intro s hs hw w B d ia va ta ea tc ec v l hsv hb hr hd hl
 obtain⟨code,pos,nm,ix,vl,th,el⟩:=s
 obtain⟨x,bx,hvl,rfl,hex⟩:=hsv.va
 simp only at hvl
 subst hvl
 have hsz:SizeOf.sizeOf th<=N/\SizeOf.sizeOf el<=N:=by simp at hs;omega
 have hw':=hw
 rw[Tp.WS]at hw'
 rcases hw'.1 with h1|h1|h1|⟨hc,h1⟩|h1
 ·obtain⟨rfl,a2,a3,a4,rfl,rfl⟩:=h1
  rw[Tp.ps1_1]at hl ⊢
  rcases hsv.ix with⟨q1,rfl⟩|⟨z,bz,q1,rfl,q3⟩
  ·simp only at q1
   subst q1
   have e:l++(Tp.tab d++([nm]++(if ([]:List X).isEmpty=true then [] else [Tp.mLb]++Tp.pxs []++[Tp.mRb])++[Tp.sp,Tp.mSet,Tp.sp]++Tp.pxs [x])++[Tp.mSemi,Tp.nl]).flatten=l++blanks d++nm++[32,58,61,32]++(Tp.pxs [x]).flatten++[59,10]:=by
    simp[yz,Tp.sp,Tp.mSet,Tp.mSemi,Tp.nl]
   rw[e]at hl ⊢
   exact vL a4.1 hex hb hr (by omega) hl
  ·simp only at q1
   subst q1
   have hwz:Tp.WX [z]:=by
    rcases a3 with a3|a3
    ·cases a3
    ·exact a3.1
   have e:l++(Tp.tab d++([nm]++(if ([z]:List X).isEmpty=true then [] else [Tp.mLb]++Tp.pxs [z]++[Tp.mRb])++[Tp.sp,Tp.mSet,Tp.sp]++Tp.pxs [x])++[Tp.mSemi,Tp.nl]).flatten=l++blanks d++nm++[91]++(Tp.pxs [z]).flatten++[93]++[32,58,61,32]++(Tp.pxs [x]).flatten++[59,10]:=by
    simp[yz,Tp.sp,Tp.mSet,Tp.mSemi,Tp.nl,Tp.mLb,Tp.mRb]
   rw[e]at hl ⊢
   exact vK hwz a4.1 q3 hex hb hr (by omega) hl
 ·obtain⟨rfl,rfl,rfl,a3,a4,a5⟩:=h1
  have hds:d+1+max (Tp.DS th) (Tp.DS el)<=500:=by rw[Tp.DS,Tp.DS]at hd;simp at hd;omega
  have e:l++(Tp.ps1 ⟨2,pos,[],[],[x],th,el⟩ d).flatten=l++blanks d++[105,102,32]++(Tp.pxs [x]).flatten++[32,116,104,101,110,10]++branchB th el d++[59,10]:=by
   rw[Tp.ps1_2]
   unfold branchB
   by_cases he:el.isEmpty=true
   ·simp[yz,he,Tp.sp,Tp.mSemi,Tp.nl,Tp.wIf,Tp.wThen,Tp.wEnd]
   ·simp[yz,he,Tp.sp,Tp.mSemi,Tp.nl,Tp.wIf,Tp.wThen,Tp.wEnd,Tp.wElse]
  rw[e]at hl ⊢
  exact addStmt_if hE a3.1 hsz.1 hsz.2 a4 a5 rfl rfl hex hsv hb hr hds hl
 ·obtain⟨rfl,rfl,rfl,a3,a4,rfl⟩:=h1
  have hds:d+1+Tp.DS th<=500:=by rw[Tp.DS,Tp.DS]at hd;simp at hd;omega
  have e:l++(Tp.ps1 ⟨3,pos,[],[],[x],th,[]⟩ d).flatten=l++blanks d++[119,104,105,108,101,32]++(Tp.pxs [x]).flatten++[32,100,111,10]++(Tp.psts th (d+1)).flatten++blanks d++[101,110,100]++[59,10]:=by
   rw[Tp.ps1_3]
   simp[yz,Tp.sp,Tp.mSemi,Tp.nl,Tp.wWhile,Tp.wDo,Tp.wEnd]
  rw[e]at hl ⊢
  obtain⟨cs,q1,q2⟩:=hsv.th
  rcases hsv.ix with⟨_,rfl⟩|⟨z,bz,q3,_,_⟩
  ·exact xO hE a3.1 hsz.1 a4 hex q1 q2 hb hr hds hl
  ·cases q3
 ·obtain⟨rfl,rfl,a3,rfl,rfl⟩:=h1
  rcases hsv.ix with⟨_,rfl⟩|⟨z,bz,q3,_,_⟩
  ·rcases hc with rfl|rfl
   ·have e:l++(Tp.ps1 ⟨4,pos,[],[],[x],[],[]⟩ d).flatten=l++blanks d++[114,101,116,117,114,110,32]++(Tp.pxs [x]).flatten++[59,10]:=by
     rw[Tp.ps1_4]
     simp[yz,Tp.sp,Tp.mSemi,Tp.nl,Tp.wReturn]
    rw[e]at hl ⊢
    exact jU a3.1 hex hb hr (by omega) hl
   ·have e:l++(Tp.ps1 ⟨5,pos,[],[],[x],[],[]⟩ d).flatten=l++blanks d++[119,114,105,116,101,32]++(Tp.pxs [x]).flatten++[59,10]:=by
     rw[Tp.ps1_5]
     simp[yz,Tp.sp,Tp.mSemi,Tp.nl,Tp.wWrite]
    rw[e]at hl ⊢
    exact xN a3.1 hex hb hr (by omega) hl
  ·cases q3
 ·obtain⟨rfl,rfl,rfl,a3,a4,rfl,rfl⟩:=h1
  rcases hsv.ix with⟨_,rfl⟩|⟨z,bz,q3,_,_⟩
  ·have e:l++(Tp.ps1 ⟨6,pos,[],[],[x],[],[]⟩ d).flatten=l++blanks d++(Tp.pxs [x]).flatten++[59,10]:=by
    rw[Tp.ps1_6]
    simp[yz,Tp.mSemi,Tp.nl]
   rw[e]at hl ⊢
   exact vM a3.1 hex hb hr (by omega) hl
  ·cases q3
theorem stmtW_all:∀ N,StmtW kk N/\StmtsW kk N:=by
 intro N
 induction N using Nat.strongRecOn with
 | _ N ih =>
  cases N with
  | zero=>exact⟨fun s h=>by obtain⟨⟩:=s;simp at h,fun ss h=>by cases ss <;> simp at h⟩
  | succ n=>exact⟨stmt_of (ih n (by omega)).2,stmts_of (ih n (by omega)).1⟩
theorem js {ss:List S}(hw:Tp.WS ss) {w:World}{B d:Nat}{sa:Option Addr}{sc:Nat}{cs:List Value}{v:Value}{l:List UInt8}(hx:RepS w (fun i=>i<B) ss cs) (ho:OwnS w (fun i=>i<B) (.slice sa ss.length sc) ss.length cs) (hb:Buf kk w B v l) (hr:Wr B w) (hd:d+Tp.DS ss<=500) (hl:(l++(Tp.psts ss d).flatten).length<=1000000000) :
  Calls Tryz.prog 105 #[v,.slice sa ss.length sc,.int .i64 (d:Int)] w (Wrote kk B w (l++(Tp.psts ss d).flatten)) :=
 (stmtW_all (SizeOf.sizeOf ss)).2 ss zn hw w B d sa sc cs v l hx ho hb hr hd hl
end Go.Proofs.YthnoedjbhbkdeaaGreatDoor
namespace Go.Proofs.YthnoedjbhbkdeaaGreatDoor
open Go.RowKit
variable {kk:Nat->Prop}
open Tp (X S G Pr)
theorem jI:∀ is:List (List UInt8),Lib.join is [44,32]=(Tp.pnames is).flatten:=by
 intro is
 induction is with
 | nil=>rfl
 | cons x r ih =>
  cases r with
  | nil=>rw[Lib.join_one];simp[Tp.pnames,Tp.commas]
  | cons y r =>
   have e:Lib.join (x :: y :: r) [44,32]=x++[44,32]++Lib.join (y :: r) [44,32]:=by
    simp[Lib.join,List.intercalate]
   rw[e,ih]
   simp[Tp.pnames,Tp.commas,Tp.mComma,Tp.sp]
theorem yL {w:World}{B:Nat}{is:List (List UInt8)}{a:Option Addr}{c:Nat}(h:Row w (fun i=>i<B) 9 1 (.slice a is.length c) is.length (strs is)) (hl:(Tp.pnames is).flatten.length<=1000000000) (hn:is.length<=1000000000) :
  Calls Tryz.prog 49 #[.slice a is.length c,.string ⟨#[44,32]⟩] w fun e w'=>e=.returned (.string (bs (Tp.pnames is).flatten))/\Below w.heap.size w w':=by
 rcases h with⟨h1,h2,h3⟩|⟨g,cap,cur,h1,h2,h3,h4,h5,h6,h7⟩
 ·have e:is=[]:=List.eq_nil_of_length_eq_zero h2
  subst e
  refine(Any.strings_Join_none Tryz.laysJoin Tryz.extraJoin a c ⟨#[44,32]⟩ w).mono ?_
  rintro e w' ⟨rfl,rfl⟩
  exact⟨rfl,Below.refl _ _⟩
 ·cases h1
  have hsz:is.length<=cur.size:=by omega
  have e1:(is.map bs).map (fun x:ByteArray=>x.data.toList)=is:=by
   rw[List.map_map]
   conv=>rhs;rw[<-List.map_id is]
   apply List.map_congr_left
   intro x _
   simp[bs]
  have hc:=Any.strings_Join Tryz.laysJoin Tryz.extraJoin g 0 c (is.map bs) ⟨#[44,32]⟩ w ?c1 (zc h3) (by simp;omega) (by simpa using h4) (by rw[e1];show (Lib.join is [44,32]).length<=_;rw[jI];omega)
  case c1 =>
   intro j x hj
   rw[za h3,Nat.zero_add]
   have hjl:j<is.length:=by
    have:=(List.getElem?_eq_some_iff.1 hj).1
    simpa using this
   rw[<-Array.getElem?_toList]
   have:(cur.toList.take (is.length * 1))[j]?=(strs is)[j]?:=by rw[h7]
   rw[List.getElem?_take_of_lt (by omega)]at this
   rw[this]
   simp only [List.getElem?_map]at hj
   simp[strs]
   rw[Option.map_eq_some_iff]at hj
   obtain⟨y,hy,rfl⟩:=hj
   exact⟨y,hy,rfl⟩
  rw[e1,List.length_map]at hc
  have e2:(⟨#[44,32]⟩:ByteArray).data.toList=[44,32]:=rfl
  rw[e2,jI]at hc
  exact hc
theorem itoa_post (w:World) (i:Nat) (hi:i<100):Calls Tryz.prog 50 #[.int .i64 (i:Int)] w fun e w'=>e=.returned (.string (bs (Tp.dec i)))/\w'=w:=by
 have h:=Any.strconv_Itoa_small Tryz.laysItoa i hi w
 have e:Tp.dec i=Lib.decDigits i:=by rw[dec_itoa,Lib.itoa_nonneg]
 rw[e]
 exact h
theorem addAllN {w:World}{B:Nat}{v:Value}{l:List UInt8}(h:Buf kk w B v l) (ss:List (List UInt8)) (hn:ss.length<=1000) (hl:(l++ss.flatten).length<=1000000000) :
  Calls Tryz.prog 102 #[v,.slice (some ⟨w.heap.size,0,none⟩) ss.length ss.length] (w.alloc (.cells (ss.map fun s=>Value.string (bs s)).toArray 9)) (Wrote kk B w (l++ss.flatten)):=by
 have hk:Below w.heap.size w (w.alloc (.cells (ss.map fun s=>Value.string (bs s)).toArray 9)):=zb _ _
 refine(yF (h.below hk) ss w.heap.size ss.length (zu _ _) hn hl).mono ?_
 rintro e w' ⟨v',h1,h2,h3⟩
 exact⟨v',h1,h2,(Bw.of (kk:=kk) hk h.2).trans h3⟩
theorem jM {w:World}{b:Nat}{v0 v1 v2 v3:Value}{t:TypeId}(h:w.heap[b]?=some (.cells #[v0,v1,v2,v3] t (0,0))):w.cell? ⟨b,0,none⟩=some v0/\w.cell? ⟨b,2,none⟩=some v2/\w.cell? ⟨b,3,none⟩=some v3 :=
 ⟨(za h).trans rfl,(za h).trans rfl,(za h).trans rfl⟩
theorem pg_flat (g:G):(Tp.pg g).flatten=[118,97,114,32]++g.name++(Tp.star g.seen).flatten++[58,32]++(if g.len=0 then [105,110,116,59,10] else [97,114,114,97,121,32]++Tp.dec g.len++[59,10]):=by
 unfold Tp.pg
 by_cases h:g.len=0 <;> simp[h,Tp.wVar,Tp.sp,Tp.mColon,Tp.wInt,Tp.wArray,Tp.mSemi,Tp.nl]
theorem jX (g:G) (hg:g.len<=30) {w:World}{B:Nat}{v:Value}{l:List UInt8}(hb:Buf kk w B v l) (hl:(l++(Tp.pg g).flatten).length<=1000000000) :
  Calls Tryz.prog 103 #[v,.agg #[.string (bs g.name),.int .i64 (g.pos:Int),.int .i64 (g.len:Int),.bool g.seen]] w (Wrote kk B w (l++(Tp.pg g).flatten)):=by
 obtain⟨nm,pos,len,seen⟩:=g
 simp only at hg
 rw[pg_flat]at hl ⊢
 simp only at hl ⊢
 have hstar:=fun W=>star_any W seen
 obtain⟨st,hst⟩:∃ st,st=(Tp.star seen).flatten:=⟨_,rfl⟩
 rw[<-hst]at hl ⊢ hstar
 clear hst
 obtain⟨tl,htl⟩:∃ tl,tl=(if len=0 then [105,110,116,59,10] else [97,114,114,97,121,32]++Tp.dec len++[59,10]:List UInt8):=⟨_,rfl⟩
 rw[<-htl]at hl ⊢
 have HTL:Hid (tl=(if len=0 then [105,110,116,59,10] else [97,114,114,97,121,32]++Tp.dec len++[59,10]:List UInt8)):=htl
 obtain⟨m1,hm1⟩:∃ m1,m1=l++([[118,97,114,32],nm,st,[58,32]]:List (List UInt8)).flatten:=⟨_,rfl⟩
 obtain⟨mf,hmf⟩:∃ mf,mf=l++([118,97,114,32]++nm++st++[58,32]++tl):=⟨_,rfl⟩
 have e1:mf=m1++tl:=by rw[hmf,hm1];simp
 rw[<-hmf]at hl ⊢
 have hl1:m1.length<=1000000000:=by rw[e1,List.length_append]at hl;omega
 have hal:∀ ob,Below w.heap.size w (w.alloc ob):=fun ob=>zb _ _
 have hD:∀ o1 o2,Below w.heap.size w ((w.alloc o1).alloc o2).drew:=fun o1 o2=>((hal o1).alloc (by simp) _).drew
 have HBW:Hid (∀ o1 o2,Bw kk B w ((w.alloc o1).alloc o2).drew):=fun o1 o2=>Bw.of (kk:=kk) (hD o1 o2) hb.2
 have hA:=yF (hb.below (hD (.cells #[.string (bs nm),.int .i64 (pos:Int),.int .i64 (len:Int),.bool seen] 71) (.cells #[.string ⟨#[118,97,114,32]⟩,.string (bs nm),.string (bs st),.string ⟨#[58,32]⟩] 9))) [[118,97,114,32],nm,st,[58,32]] (w.heap.size+1) 4 (xC _ _ _) (by simp) (by rw[<-hm1];exact hl1)
 rw[<-hm1]at hA
 have HA:Hid (Calls Tryz.prog 102 #[v,.slice (some ⟨w.heap.size+1,0,none⟩) 4 4] ((w.alloc (.cells #[.string (bs nm),.int .i64 (pos:Int),.int .i64 (len:Int),.bool seen] 71)).alloc (.cells #[.string ⟨#[118,97,114,32]⟩,.string (bs nm),.string (bs st),.string ⟨#[58,32]⟩] 9)).drew (Wrote kk B ((w.alloc (.cells #[.string (bs nm),.int .i64 (pos:Int),.int .i64 (len:Int),.bool seen] 71)).alloc (.cells #[.string ⟨#[118,97,114,32]⟩,.string (bs nm),.string (bs st),.string ⟨#[58,32]⟩] 9)).drew m1)):=hA
 have HS:Hid (∀ W,Calls Tryz.prog 147 #[.bool seen] W fun e w'=>e=.returned (.string (bs st))/\w'=W):=hstar
 have HE1:Hid (mf=m1++tl):=e1
 have HL:Hid (mf.length<=1000000000):=hl
 clear hA hstar hm1 hmf e1 hal hb hl htl
 have hblk:(w.alloc (.cells #[.string (bs nm),.int .i64 (pos:Int),.int .i64 (len:Int),.bool seen] 71)).heap[w.heap.size]?=some (.cells #[.string (bs nm),.int .i64 (pos:Int),.int .i64 (len:Int),.bool seen] 71 (0,0)):=zu _ _
 obtain⟨k0,k2,k3⟩:=jM hblk
 have HK:Hid (((w.alloc (.cells #[.string (bs nm),.int .i64 (pos:Int),.int .i64 (len:Int),.bool seen] 71)).alloc (.cells #[.string ⟨#[118,97,114,32]⟩,.string (bs nm),.string (bs st),.string ⟨#[58,32]⟩] 9)).drew.heap[w.heap.size]?=some (.cells #[.string (bs nm),.int .i64 (pos:Int),.int .i64 (len:Int),.bool seen] 71 (0,0))):=(Below.heap_alloc (w.alloc (.cells #[.string (bs nm),.int .i64 (pos:Int),.int .i64 (len:Int),.bool seen] 71)) _ w.heap.size (by simp)).trans hblk
 obtain⟨j0,j2,j3⟩:=jM HK.out
 clear hblk
 go_enter Tryz.func103,Tryz.ntmps103
 go_wp2_with fail
 go_region_held3 (fun w'=>w'.cell? ⟨w.heap.size,0,none⟩=some (.string (bs nm))/\w'.cell? ⟨w.heap.size,3,none⟩=some (.bool seen)) (first|(exact⟨k0,k3⟩)|(exact⟨j0,j3⟩)|(exact⟨q0,q3⟩)) (first|(go_at_call 147;refine(HS.out _).mono ?_;rintro e w2 ⟨rfl,rfl⟩)|(go_at_call 102;refine HA.out.mono ?_;rintro e w3 ⟨v3,rfl,hbuf3,hbel3⟩;have hblk3:=hbel3.keeps HK.out (by decide);have hB3:=(HBW.out _ _).trans hbel3;obtain⟨q0,q2,q3⟩:=jM hblk3))
 clear HK HA HS k0 k2 k3 j0 j2 j3 q0 q3 HBW
 by_cases h0:len=0
 ·subst h0
  have e:tl=[105,110,116,59,10]:=HTL.out
  have hcall:=addAll1 hbuf3 [105,110,116,59,10] (by rw[<-e,<-HE1.out];exact HL.out)
  rw[<-e,<-HE1.out]at hcall
  have HA2:Hid (Calls Tryz.prog 102 #[v3,.slice (some ⟨w3.heap.size,0,none⟩) 1 1] (w3.alloc (.cells #[.string ⟨#[105,110,116,59,10]⟩] 9)) (Wrote kk B w3 mf)):=by rw[e]at hcall;exact hcall
  have HB3:Hid (Bw kk B w w3):=hB3
  have q2':w3.cell? ⟨w.heap.size,2,none⟩=some (.int .i64 0):=q2
  have hlt:=zc hblk3
  clear hcall hbuf3 hbel3 hblk3 q2 hB3
  go_wp2_with fail
  refine HA2.out.mono ?_
  rintro e w4 ⟨v4,rfl,hbuf4,hbel4⟩
  have HB:Hid (Buf kk w4 B v4 mf):=hbuf4
  clear hbuf4
  go_wp2_with fail
  go_ret
  exact⟨_,rfl,HB.out,HB3.out.trans hbel4⟩
 ·have e:tl=[97,114,114,97,121,32]++Tp.dec len++[59,10]:=by rw[HTL.out,if_neg h0]
  obtain⟨ds,hds⟩:∃ ds,ds=Tp.dec len:=⟨_,rfl⟩
  have hit:=fun W=>itoa_post W len (by omega)
  rw[<-hds]at e hit
  have hcall:=addAllN hbuf3 [[97,114,114,97,121,32],ds,[59,10]] (by simp) (by have:=HL.out;rw[HE1.out,e]at this;simpa using this)
  have e2:m1++([[97,114,114,97,121,32],ds,[59,10]]:List (List UInt8)).flatten=mf:=by rw[HE1.out,e];simp
  rw[e2]at hcall
  have HA2:Hid (Calls Tryz.prog 102 #[v3,.slice (some ⟨w3.heap.size,0,none⟩) 3 3] (w3.alloc (.cells #[.string ⟨#[97,114,114,97,121,32]⟩,.string (bs ds),.string ⟨#[59,10]⟩] 9)) (Wrote kk B w3 mf)):=hcall
  have HI:Hid (∀ W,Calls Tryz.prog 50 #[.int .i64 (len:Int)] W fun e w'=>e=.returned (.string (bs ds))/\w'=W):=hit
  have HB3:Hid (Bw kk B w w3):=hB3
  have hlt:=zc hblk3
  have hne:(len:Int)≠0:=by omega
  clear hcall hbuf3 hbel3 hblk3 hB3 hit e e2 hds
  go_wp2_with (first|(go_at_call 50;refine(HI.out _).mono ?_;rintro e w4 ⟨rfl,rfl⟩)|(go_at_call 102;refine HA2.out.mono ?_;rintro e w5 ⟨v5,rfl,hbuf5,hbel5⟩))
  have HB:Hid (Buf kk w5 B v5 mf):=hbuf5
  have HBB:=zh hbel5
  clear hbuf5 hbel5
  go_wp2_with fail
  go_ret
  exact⟨_,rfl,HB.out,HB3.out.trans HBB.out⟩
end Go.Proofs.YthnoedjbhbkdeaaGreatDoor
