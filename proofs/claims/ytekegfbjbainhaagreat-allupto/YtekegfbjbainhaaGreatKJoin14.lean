import Derived.Test.YtekegfbjbainhaaGreatKJoin13
import Derived.ProofKit
import Derived.SizedLaws
import Derived.OpenShut
import Derived.Deep.Slices
set_option maxRecDepth 100000
set_option maxHeartbeats 4000000
set_option linter.unusedVariables false
set_option linter.unusedSimpArgs false
namespace Go.Proofs.YtekegfbjbainhaaGreat
open Go.RowKit
section
structure oG(d:tj)(w W:World)(b b':Nat)(C:List Value):Prop where
 st:Cz d w W
 one:aj W b 103 C
 two:aj W b' 103 C
theorem uY(a:tj)(aE:List Value)(cI:Value)(w:World)(B:gz w a)(eq:aE[0]? =some (.int .i64 5))(aI:a.tds.length<40):
  CP 21 #[cI,.agg aE.toArray,.pointer (some ⟨a.pb,0,none⟩)] w fun G a5=>G=.returned (.bool true)/\Cz a w a5:=by
 have b2:Hd (BB w (w.alloc (.cells aE.toArray 43))):=tO;have ep:a.pb<w.heap.size:=aj.lt B.lay.row;have d2:w.cell? ⟨a.pb,0,none⟩=some (.pointer (some ⟨a.sb,0,none⟩)):=aj.cell B.lay.row 0 (by simp);have M:=B.lay.below b2.o;have au:Hd (Calls _ _ _ _ _):=lG a.sb a.N a.en a.tr a.mp a.es a.xs a.its a.tds _ M.sto aI (by have:=B.cnt;omega);have aC:Hd (∀(K:World) (H:tj),Fq K H->H.rb=a.rb->H.now=a.now->H.past=a.past->H.roots=a.roots->H.nl=a.nl->H.pastL=a.pastL->H.rl=a.rl->CP 45 #[.pointer (some ⟨a.rb,0,none⟩)] K fun G a5=>G=.returned (.tuple #[.agg (Fx a.tds.length (Sz a.its) (a.tds.length+1) (Uj 42 (a.tds.map sj++[Sz a.its]))).toArray,.int .i64 0])/\
   ∃b:tj,b={H with now:=b.now,past:=b.past,roots:=b.roots,nl:=a.its,pastL:=a.pastL++[(a.now,a.its)],rl:=a.tds.map sj++[Sz a.its]}/\Fq a5 b/\bj H.F K a5/\(∀d,b.F d->d<K.heap.size->H.F d)):=by
  intro K H an ad bi ae af cp bk cr;have bw:=an.ref;rw[ad,bi,ae,af,cp,bk,cr,B.nl,B.rl]at bw;refine(UY a.rb 0 a.now a.past a.roots a.its a.pastL (a.tds.map sj) K bw (by simpa using aI) (by rw[B.pl];exact aI) B.lay.sto.len B.lay.sto.ok (nN _)).mono ?_;rintro G a5 ⟨rfl,cP,d4,cS,a4,d0,d1⟩;have cT:Yj a5 H.rb 0 a.now cP d4 a.its (a.pastL++[(a.now,a.its)]) (a.tds.map sj++[Sz a.its]):=by rw[ad];exact cS
  obtain⟨bm,a0⟩:=an.setRef cT a4 (fun d c=>by
   unfold tj.rF xw;rw[ad,ae,af];rcases c with c|c|c
   .exact SM c
   .exact RM (RM (SM c))
   .exact RM (RM (RM (SM c)))) (fun d c V=>by
   unfold tj.rF xw;rw[bi,ae,af,bk];rcases c with c|c|c|c|⟨cR,a3,c⟩
   .exact SM c
   .exact RM (SM c)
   .exact RM (RM (SM (d0 d c V)))
   .exact RM (RM (RM (SM (d1 d c V))))
   .rcases fN.1 a3 with a3|a3
    .exact RM (RM (RM (RM ⟨cR,a3,c⟩)))
    .simp only[eN]at a3;subst a3;exact RM (SM c))
  refine⟨by simp,_,?_,bm,?_,a0⟩
  .rfl
  .exact a4.mono (fun d _ c=>RM (RM (by
    unfold tj.rF xw;rw[ad,ae,af];rcases c with c|c|c
    .exact SM c
    .exact RM (RM (SM c))
    .exact RM (RM (RM (SM c))))))
 obtain⟨h,i,j,k,l,m,n,o,bE⟩:=uj (Uj 42 (a.tds.map sj++[Sz a.its])) (Wj 41 _);obtain⟨s,t,u,v,x,y,z,A,bO⟩:=uj (Sz a.its) rfl;obtain⟨E,F,b3⟩:∃E F:Int,Hd (Fx a.tds.length (Sz a.its) (a.tds.length+1) (Uj 42 (a.tds.map sj++[Sz a.its]))=Lz E F s t u v x y z A h i j k l m n o):=⟨a.tds.length,(a.tds.length+1:Nat),by unfold Hd;rw[bE,bO];rfl⟩;clear bE bO;rw[b3.o]at au aC;have ek:∀d,a.F d->d<w.heap.size:=B.lay.lt;go_enter Tryz.func21,Tryz.ntmps21;go_wp2_with fail;refine au.o.mono ?_;rintro G r ⟨c0,bS,bl,R,aD,rfl,bD,bA,ei,aa,bv,bs,bh,ez,bn,bo,bp,aR⟩;obtain⟨Z,a8⟩:=M.setSto bD aa (fun d G=>SM G) bv ((M.tre.next aa (fun d G=>G) bs).push aR.good bn bo bp ⟨M.sto.rise,M.sto.ok,M.sto.norm,M.sto.len⟩) (fun d c V=>by
  obtain⟨co,a1,bT,bu,ar,bI,c⟩:=c;rcases fN.1 a1 with a1|a1
  .exact RM ⟨co,a1,bT,bu,ar,bI,c⟩
  .simp only[eN]at a1;subst a1;rcases aR.foot bT bu ar bI d c V with cs|⟨df,cD,dg,cE,G⟩
   .exact SM (RM (RM (SM cs)))
   .exact SM (RM (SM (RM ⟨df,cD,SM ⟨dg,cE,G⟩⟩))))
 obtain⟨H,I⟩:∃ar,ar=({a with N:=aD,tr:=c0,mp:=bS,es:=bl,tds:=a.tds++[R],T:=a.T++[bh],pp:=a.pp++[a.its]}:tj):=⟨_,rfl⟩;rw[<-I]at Z a8;have c4:=aa.size;simp only[YM]at c4 a8;have b4:Hd (H=({a with N:=aD,tr:=c0,mp:=bS,es:=bl,tds:=a.tds++[R],T:=a.T++[bh],pp:=a.pp++[a.its]}:tj)):=I;have ca:Hd (bj a.F w r):=(bj.of_below_all (S:=a.F) b2.o).into aa (fun d _ c=>RM (SM (SM (SM c))));clear bn bo bp aR bs;have bf:Hd (aj (r.alloc (.cells kO 103)) r.heap.size 103 Mq):=aj.new r _ _;have b8:Hd (∀Y,bj (fun d=>d=r.heap.size) (r.alloc (.cells kO 103)) Y->Fq Y H):=fun Y Q=>
  (Z.below tO).frame Q (fun d c G=>by have:=Z.lt d c;omega)
 have be:Hd (∀K,Fq K H->K.cell? ⟨a.pb,1,none⟩=some (.pointer (some ⟨a.rb,0,none⟩))):=fun K an=>by
  have:=aj.cellK an.row 1 _ rfl;rw[I]at this;exact this
 clear bD aa bv M I d2 au;go_wp2_with (refine xv (by rfl) 103 (.tmp 17) (.tmp 113) (by rfl) r.heap.size (by rfl) (Lz E F s t u v x y z A h i j k l m n o) (by rfl) bf.o rfl Tryz.sizeCommit bX ?_;intro Y b0 aS bP;have aT:=b8.o _ aS;have d3:Y.cell? ⟨a.pb,1,none⟩=some (.pointer (some ⟨a.rb,0,none⟩)):=be.o _ aT);have I:=b4.o;refine(aC.o Y H aT (by rw[I]) (by rw[I]) (by rw[I]) (by rw[I]) (by rw[I]) (by rw[I]) (by rw[I])).mono ?_;rintro G e ⟨rfl,b,br,ab,ak,aP⟩;simp only[YM]at bP;have dh:=ak.size;have bB:aj e r.heap.size 103 (Lz E F s t u v x y z A h i j k l m n o):=b0.of_block (ak.block _ b0.lt (fun G=>by have:=Z.lt _ G;omega));have cb:Hd (bj a.F w e):=by
  have a0:bj a.F w Y:=(ca.o.alloc _).into aS (fun d c G=>by omega);exact a0.into ak (fun d c G=>a8 d G (by omega))
 have b5:Hd (∀d,b.F d->d<w.heap.size->a.F d):=fun d c V=>a8 d (aP d c (by omega)) (by omega);have b6:Hd (b.pb=a.pb/\b.done=a.done/\b.dn=a.dn/\b.doneC=a.doneC/\b.nl=b.its/\b.rl=b.tds.map sj/\b.pastL.length=b.tds.length/\b.dn+1=b.tds.length/\b.tds.length<=40/\b.N<=500*b.tds.length/\b.pastL.map (·.2)=b.pp/\b.doneC++Lz E F s t u v x y z A h i j k l m n o=iy (b.tds.map sj)):=by
  rw[br,I];refine⟨rfl,rfl,rfl,rfl,rfl,?_,?_,?_,?_,?_,?_,?_⟩
  .show a.tds.map sj++[Sz a.its]=(a.tds++[R]).map sj;rw[rN,<-bA];rfl
  .show(a.pastL++[(a.now,a.its)]).length=(a.tds++[R]).length;simp[B.pl]
  .show a.dn+1=(a.tds++[R]).length;simp[B.dl]
  .show(a.tds++[R]).length<=40;simp;omega
  .show aD<=500*(a.tds++[R]).length;have:=B.cnt;simp;omega
  .show(a.pastL++[(a.now,a.its)]).map (·.2)=a.pp++[a.its];rw[rN,B.pst];rfl
  .show a.doneC++_=iy ((a.tds++[R]).map sj);rw[rN,List.map_singleton,OU,B.dc,<-b3.o,bA,FN]
 have bg:Hd (aj (e.alloc (.cells kO 103)) e.heap.size 103 Mq):=aj.new e _ _;have bc:Hd (∀g,bj (fun d=>d=e.heap.size) (e.alloc (.cells kO 103)) g->Fq g b):=fun g Q=>
  (ab.below tO).frame Q (fun d c G=>by have:=ab.lt d c;omega)
 have ch:Hd (Fq e b):=ab;have ax:Hd (aj e r.heap.size 103 (Lz E F s t u v x y z A h i j k l m n o)):=bB;have ce:Hd (¬b.F r.heap.size):=fun G=>by have:=Z.lt _ (aP _ G (by omega));omega
 clear I br ab ak aP aS b0 Z a8 aT d3 aC b8 be bf bB;go_upto_region 19 with(refine xv (by rfl) 103 (.tmp 19) (.tmp 121) (by rfl) e.heap.size (by rfl) (Lz E F s t u v x y z A h i j k l m n o) (by rfl) bg.o rfl Tryz.sizeCommit bX ?_;intro g b1 al bR);have ao:=bc.o _ al;simp only[YM]at bR;obtain⟨ap,cv,cu,ct,b7⟩:=b6.o;have cB:r.heap.size<e.heap.size:=ax.o.lt;have bC:aj g r.heap.size 103 (Lz E F s t u v x y z A h i j k l m n o):=(aj.alloc (w:=e) ax.o _).of_block (al.block _ (by simp;omega) (by omega));have cc:Hd (bj a.F w g):=(cb.o.alloc _).into al (fun d c G=>by omega);have a4:g.cell? ⟨a.pb,2,none⟩=some (.slice b.done.a b.done.n b.done.cap):=by
  have:=aj.cellK ao.row 2 _ rfl;rw[ap]at this;exact this
 have bm:e.heap.size<g.heap.size:=by omega
 have a0:a.pb<g.heap.size:=by omega
 have en:e.heap.size≠a.pb:=by omega
 have eo:a.pb≠e.heap.size:=by omega
 have ag:Below g.heap.size g (g.drew.alloc (.cells (Lz E F s t u v x y z A h i j k l m n o).toArray 103)):=by
  have a9:Below g.drew.heap.size g.drew (g.drew.alloc (.cells (Lz E F s t u v x y z A h i j k l m n o).toArray 103)):=tO;exact⟨a9.os,a9.tape,a9.output,a9.size,a9.block⟩
 have W:Fq (g.drew.alloc (.cells (Lz E F s t u v x y z A h i j k l m n o).toArray 103)) b:=ao.below ag;have cf:Hd ((g.drew.alloc (.cells (Lz E F s t u v x y z A h i j k l m n o).toArray 103)).ownsRow 0 103 18 (.slice b.done.a b.done.n b.done.cap) b.dn b.doneC):=W.hdone;have cl:Hd (jj (g.drew.alloc (.cells (Lz E F s t u v x y z A h i j k l m n o).toArray 103)) (some ⟨g.heap.size,0,none⟩) (Lz E F s t u v x y z A h i j k l m n o)):=jj.alloc_new g.drew _ _;have cd:Hd (∀d5∈Lz E F s t u v x y z A h i j k l m n o,d5.oneCell'=true):=bX;have di:Hd (b.dn+1<=maxLen):=by unfold Hd maxLen;omega
 have dl:Hd ((b.dn+1)*32<=140737488355328):=by unfold Hd;omega
 have aB:Hd (∀L,bj (fun d=>(Value.slice b.done.a b.done.n b.done.cap).ownBlock=some d) (g.drew.alloc (.cells (Lz E F s t u v x y z A h i j k l m n o).toArray 103)) L->aj L a.pb 94 [Cj b.sb,Cj b.rb,b.done.val]):=fun L Q=>by
  rw[<-ap];exact aj.of_block W.row (Q.block _ (aj.lt W.row) (fun G=>xj W.hdone W.row (by decide) G))
 have ck:Hd (g.drew.rangeAt e.heap.size 0 (Lz E F s t u v x y z A h i j k l m n o)):=b1.range;have cj:Hd ((g.drew.alloc (.cells (Lz E F s t u v x y z A h i j k l m n o).toArray 103)).cell? ⟨a.pb,2,none⟩=some (.slice b.done.a b.done.n b.done.cap)):=by
  have:=ag.cell (p:=⟨a.pb,2,none⟩) a0;unfold Hd;rw[this];exact a4
 have bd:Hd (g.drew.cell? ⟨a.pb,2,none⟩=some (.slice b.done.a b.done.n b.done.cap)):=a4;have bb:Hd (BB g (g.drew.alloc (.cells (Lz E F s t u v x y z A h i j k l m n o).toArray 103))):=ag;have ba:Hd (Fq (g.drew.alloc (.cells (Lz E F s t u v x y z A h i j k l m n o).toArray 103)) b):=W;have b9:Hd (Fq g b):=ao;have av:Hd (b.nl=b.its/\b.rl=b.tds.map sj/\b.pastL.length=b.tds.length/\b.dn+1=b.tds.length/\b.tds.length<=40/\b.N<=500*b.tds.length/\b.pastL.map (·.2)=b.pp/\b.doneC++Lz E F s t u v x y z A h i j k l m n o=iy (b.tds.map sj)):=b7;have ci:Hd (b.pb=a.pb):=ap;have aA:Hd (aj g r.heap.size 103 (Lz E F s t u v x y z A h i j k l m n o)):=bC;have ac:Hd (aj g e.heap.size 103 (Lz E F s t u v x y z A h i j k l m n o)):=b1;have cn:Hd (w.heap.size+1<=r.heap.size/\r.heap.size<e.heap.size/\e.heap.size<g.heap.size):=⟨by omega,by omega,by omega⟩;clear bR bP c4 dh cB;clear ag W ao al b7 b6 ap cv cu ct bc bg bC b1 b4 ax;have c9:Hd (∀(O:Option Addr) (X U:Nat) (L:World),L.ownsRow 0 103 18 (.slice O X U) (b.dn+1) (b.doneC++Lz E F s t u v x y z A h i j k l m n o)->bj (fun d=>(Value.slice b.done.a b.done.n b.done.cap).ownBlock=some d) (g.drew.alloc (.cells (Lz E F s t u v x y z A h i j k l m n o).toArray 103)) L->((Value.slice O X U).ownBlock=(Value.slice b.done.a b.done.n b.done.cap).ownBlock\/(Value.slice O X U).ownBlock=some (g.drew.alloc (.cells (Lz E F s t u v x y z A h i j k l m n o).toArray 103)).heap.size)->Hd (oG a w (L.setCell ⟨a.pb,2,none⟩ (.slice O X U)) r.heap.size e.heap.size (Lz E F s t u v x y z A h i j k l m n o))):=by
  intro O X U L am a2 ai;obtain⟨c1,c2,c3⟩:=Fq.pushDone (done':=⟨O,X,U⟩) (C:=Lz E F s t u v x y z A h i j k l m n o) ba.o am a2 ai;rw[ci.o]at c1 c2 c3;obtain⟨d6,d7,d8,d9,da,db,dc,dd⟩:=av.o;obtain⟨er,et,eu⟩:=cn.o;have cA:bj a.F w (g.drew.alloc (.cells (Lz E F s t u v x y z A h i j k l m n o).toArray 103)):=(cc.o.drew).alloc _;have cC:∀d,b.F d->d<e.heap.size:=ch.o.lt;refine⟨Cz.mk ⟨c1,d6,d7,d8,d9,da,db,dc,dd⟩ ?_ ?_ ?_,?_,?_⟩
  .rfl
  .exact cA.into c3 (fun d c G=>b5.o d G c)
  .intro d c V;exact b5.o d (c2 d c (by have:=(bb.o).size;omega)) V
  .exact(aj.of_block (aj.alloc (w:=g.drew) aA.o _) (a2.block _ (aj.alloc (w:=g.drew) aA.o _).lt (fun G=>ce.o (SM (RM G))))).other (by show r.heap.size≠a.pb;omega) _
  .exact(aj.of_block (aj.alloc (w:=g.drew) ac.o _) (a2.block _ (aj.alloc (w:=g.drew) ac.o _).lt (fun G=>by have:=cC _ (SM (RM G));omega))).other (by show e.heap.size≠a.pb;omega) _
 have aO:(Lz E F s t u v x y z A h i j k l m n o).length=18:=rfl;generalize ah:Lz E F s t u v x y z A h i j k l m n o=a6 at*;have c6:Hd (Lz E F s t u v x y z A h i j k l m n o=a6):=ah;clear ah;have dm:Hd ((Tryz.prog.info? 103).map (·.size)=some a6.length):=by unfold Hd;rw[aO];exact Tryz.sizeCommit
 have c5:Hd (a6.length=18):=aO;clear aO;have cg:Hd (g.ownsRow 0 103 18 b.done.val b.dn b.doneC):=b9.o.hdone;have c7:Hd (b.dn<=1000):=by have:=av.o.2.2.2;unfold Hd;omega
 go_cut [] (fun de=>Hd (oG a w de r.heap.size e.heap.size a6))
 case first=>
  refine wp_region_any (by kernel_rfl) ?_;refine WH (D:=125) (p:=2) (q:=19) ⟨rfl,rfl,rfl,rfl,rfl,rfl,rfl,rfl,rfl,rfl,rfl,by kernel_rfl,by kernel_rfl,by kernel_rfl,by kernel_rfl,by kernel_rfl,by kernel_rfl,by kernel_rfl,by kernel_rfl,by kernel_rfl,by kernel_rfl,by kernel_rfl,by kernel_rfl,by kernel_rfl,by kernel_rfl,by kernel_rfl,by kernel_rfl,by kernel_rfl,by kernel_rfl,by kernel_rfl,by kernel_rfl,by kernel_rfl,by kernel_rfl⟩ ⟨by kernel_rfl,by kernel_rfl,by kernel_rfl,by kernel_rfl,by kernel_rfl,by kernel_rfl,by kernel_rfl,by kernel_rfl,by kernel_rfl,by kernel_rfl,by kernel_rfl,⟨by kernel_rfl,by kernel_rfl,by kernel_rfl,by kernel_rfl,by kernel_rfl,by kernel_rfl,by kernel_rfl⟩,by kernel_rfl,by kernel_rfl,⟨by kernel_rfl,by kernel_rfl,by kernel_rfl,by kernel_rfl,by kernel_rfl,by kernel_rfl,by kernel_rfl⟩,by kernel_rfl,⟨by kernel_rfl,by kernel_rfl,by kernel_rfl,by kernel_rfl,by kernel_rfl,by kernel_rfl,by kernel_rfl⟩⟩ (fun a _ _ _ _ B=>by cases a<;>exact B) a.pb 2 b.done e.heap.size a6 c5.o cd.o b.dn b.doneC c7.o
   (fun a7 B=>by have J:=B;simp only[Act.eval,WN,Nat.reduceAdd]at J;exact SM ⟨by rfl,fun w=>by go_simp⟩) (fun a7 B=>by have J:=B;simp only[Act.eval,WN,Nat.reduceAdd]at J;exact SM ⟨by rfl,fun w=>by go_simp⟩) (fun a7 B=>by have J:=B;simp only[Act.eval,WN,Nat.reduceAdd]at J;exact SM ⟨by rfl,fun w=>by go_simp⟩) (fun a7 B=>by have J:=B;simp only[Act.eval,WN,Nat.reduceAdd]at J;exact SM ⟨by rfl,fun w=>by go_simp⟩) (fun a7 B=>by have J:=B;simp only[Act.eval,WN,Nat.reduceAdd]at J;exact SM ⟨by rfl,fun w=>by go_simp⟩) (fun a7 B=>by have J:=B;simp only[Act.eval,WN,Nat.reduceAdd]at J;exact SM ⟨by rfl,fun w=>by go_simp⟩)
   _ g.drew (Nat.le_of_ble_eq_true (by kernel_rfl)) (by decide) (by decide) (by kernel_rfl) (by kernel_rfl) ac.o bd.o a0 cg.o (fun L Q=>⟨_,aj.cellK (aB.o _ Q) 2 _ rfl,aj.frozen (aB.o _ Q) 2⟩) ?_
  intro O X U L am a2 ai;have c8:=c9.o _ _ _ _ am a2 ai;clear am a2 ai;unfold VH;simp only[Act.put,saj,taj,gaj,Nat.reduceAdd];go_wp2_with fail;go_meet;exact c8
 case rest=>
  have ah:=c6.o;subst ah;have f:=hcut.o;have cm:Hd (Cz a w wc):=f.st;have dn:wc.cell? ⟨r.heap.size,0,none⟩=some (.int .i64 E):=aj.cellK f.one 0 _ rfl;have dp:wc.cell? ⟨r.heap.size,1,none⟩=some (.int .u8 s.toNat):=aj.cellK f.one 1 _ rfl;have dE:wc.cell? ⟨r.heap.size,2,none⟩=some (.int .u8 t.toNat):=aj.cellK f.one 2 _ rfl;have dI:wc.cell? ⟨r.heap.size,3,none⟩=some (.int .u8 u.toNat):=aj.cellK f.one 3 _ rfl;have dO:wc.cell? ⟨r.heap.size,4,none⟩=some (.int .u8 v.toNat):=aj.cellK f.one 4 _ rfl;have dP:wc.cell? ⟨r.heap.size,5,none⟩=some (.int .u8 x.toNat):=aj.cellK f.one 5 _ rfl;have O:wc.cell? ⟨r.heap.size,6,none⟩=some (.int .u8 y.toNat):=aj.cellK f.one 6 _ rfl;have dR:wc.cell? ⟨r.heap.size,7,none⟩=some (.int .u8 z.toNat):=aj.cellK f.one 7 _ rfl;have dS:wc.cell? ⟨r.heap.size,8,none⟩=some (.int .u8 A.toNat):=aj.cellK f.one 8 _ rfl;have dT:wc.cell? ⟨r.heap.size,9,none⟩=some (.int .i64 F):=aj.cellK f.one 9 _ rfl;have dr:wc.cell? ⟨r.heap.size,10,none⟩=some (.int .u8 h.toNat):=aj.cellK f.one 10 _ rfl;have ds:wc.cell? ⟨r.heap.size,11,none⟩=some (.int .u8 i.toNat):=aj.cellK f.one 11 _ rfl;have dt:wc.cell? ⟨r.heap.size,12,none⟩=some (.int .u8 j.toNat):=aj.cellK f.one 12 _ rfl;have du:wc.cell? ⟨r.heap.size,13,none⟩=some (.int .u8 k.toNat):=aj.cellK f.one 13 _ rfl;have dA:wc.cell? ⟨r.heap.size,14,none⟩=some (.int .u8 l.toNat):=aj.cellK f.one 14 _ rfl;have dB:wc.cell? ⟨r.heap.size,15,none⟩=some (.int .u8 m.toNat):=aj.cellK f.one 15 _ rfl;have dC:wc.cell? ⟨r.heap.size,16,none⟩=some (.int .u8 n.toNat):=aj.cellK f.one 16 _ rfl;have dD:wc.cell? ⟨r.heap.size,17,none⟩=some (.int .u8 o.toNat):=aj.cellK f.one 17 _ rfl;have e0:wc.cell? ⟨e.heap.size,0,none⟩=some (.int .i64 E):=aj.cellK f.two 0 _ rfl;have e1:wc.cell? ⟨e.heap.size,1,none⟩=some (.int .u8 s.toNat):=aj.cellK f.two 1 _ rfl;have ea:wc.cell? ⟨e.heap.size,2,none⟩=some (.int .u8 t.toNat):=aj.cellK f.two 2 _ rfl;have eb:wc.cell? ⟨e.heap.size,3,none⟩=some (.int .u8 u.toNat):=aj.cellK f.two 3 _ rfl;have ec:wc.cell? ⟨e.heap.size,4,none⟩=some (.int .u8 v.toNat):=aj.cellK f.two 4 _ rfl
  have ed:wc.cell? ⟨e.heap.size,5,none⟩=some (.int .u8 x.toNat):=aj.cellK f.two 5 _ rfl;have ee:wc.cell? ⟨e.heap.size,6,none⟩=some (.int .u8 y.toNat):=aj.cellK f.two 6 _ rfl;have ef:wc.cell? ⟨e.heap.size,7,none⟩=some (.int .u8 z.toNat):=aj.cellK f.two 7 _ rfl;have eg:wc.cell? ⟨e.heap.size,8,none⟩=some (.int .u8 A.toNat):=aj.cellK f.two 8 _ rfl;have eh:wc.cell? ⟨e.heap.size,9,none⟩=some (.int .i64 F):=aj.cellK f.two 9 _ rfl;have e2:wc.cell? ⟨e.heap.size,10,none⟩=some (.int .u8 h.toNat):=aj.cellK f.two 10 _ rfl;have e3:wc.cell? ⟨e.heap.size,11,none⟩=some (.int .u8 i.toNat):=aj.cellK f.two 11 _ rfl;have e4:wc.cell? ⟨e.heap.size,12,none⟩=some (.int .u8 j.toNat):=aj.cellK f.two 12 _ rfl;have e5:wc.cell? ⟨e.heap.size,13,none⟩=some (.int .u8 k.toNat):=aj.cellK f.two 13 _ rfl;have e6:wc.cell? ⟨e.heap.size,14,none⟩=some (.int .u8 l.toNat):=aj.cellK f.two 14 _ rfl;have e7:wc.cell? ⟨e.heap.size,15,none⟩=some (.int .u8 m.toNat):=aj.cellK f.two 15 _ rfl;have e8:wc.cell? ⟨e.heap.size,16,none⟩=some (.int .u8 n.toNat):=aj.cellK f.two 16 _ rfl;have e9:wc.cell? ⟨e.heap.size,17,none⟩=some (.int .u8 o.toNat):=aj.cellK f.two 17 _ rfl;have em:∀w,(Op.equalIn 10000 36 (Value.agg (cO s t u v x y z A)) (Value.agg (cO s t u v x y z A))).run Tryz.prog w=.ok true w:=fun w=>by
   have B:=run_equalIn_bytes (P:=Tryz.prog) w 9998 36 5 8 Tryz.underlying36 Tryz.underlying5 Tryz.sizeU8 [s,t,u,v,x,y,z,A] [s,t,u,v,x,y,z,A] rfl rfl;rw[beq_self_eq_true]at B;exact B
  have el:∀w,(Op.equalIn 10000 36 (Value.agg (cO h i j k l m n o)) (Value.agg (cO h i j k l m n o))).run Tryz.prog w=.ok true w:=fun w=>by
   have B:=run_equalIn_bytes (P:=Tryz.prog) w 9998 36 5 8 Tryz.underlying36 Tryz.underlying5 Tryz.sizeU8 [h,i,j,k,l,m,n,o] [h,i,j,k,l,m,n,o] rfl rfl;rw[beq_self_eq_true]at B;exact B
  have ex:r.heap.size<wc.heap.size:=f.one.lt;have ey:e.heap.size<wc.heap.size:=f.two.lt;clear f hcut cf cl ba b9 aB av aA ac a4 ck cj bd bb;go_wp2;go_ret;exact⟨rfl,cm.o⟩
theorem TX(c:tj)(m:List Value)(O:Value)(w:World)(g:gz w c)(aI:m[0]? =some (.int .i64 5))(A:c.tds.length=40):
  CP 21 #[O,.agg m.toArray,.pointer (some ⟨c.pb,0,none⟩)] w fun n U=>n=.returned (.bool true)/\Cz c w U:=by
 have s:Hd (BB w (w.alloc (.cells m.toArray 43))):=tO;have aE:c.pb<w.heap.size:=aj.lt g.lay.row;have Q:w.cell? ⟨c.pb,0,none⟩=some (.pointer (some ⟨c.sb,0,none⟩)):=aj.cell g.lay.row 0 (by simp);have x:=g.lay.below s.o;have v:Hd (Calls _ _ _ _ _):=mW c.sb c.N c.en c.tr c.mp c.es c.xs c.its c.tds _ x.sto A;go_enter Tryz.func21,Tryz.ntmps21;go_wp2_with fail;refine v.o.mono ?_;rintro n b ⟨rfl,o⟩;have G:Hd (BB w b):=s.o.trans (o.mono (by simp));have F:=o.size;simp only[YM]at F;have z:Hd (aj (b.alloc (.cells kO 103)) b.heap.size 103 Mq):=aj.new b _ _;have t:Hd (∀h,bj (fun k=>k=b.heap.size) (b.alloc (.cells kO 103)) h->Below w.heap.size w h):=fun h N=>
  (G.o.alloc (by omega) _).trans (N.below (by simp;omega) (fun k q=>by omega))
 have y:Hd (∀l,BB w l->l.cell? ⟨c.pb,1,none⟩=some (.pointer (some ⟨c.rb,0,none⟩))):=fun l M=>aj.cellK (g.lay.below M).row 1 _ rfl;clear o x Q v;go_wp2_with (refine xv (by rfl) 103 (.tmp 17) (.tmp 113) (by rfl) b.heap.size (by rfl) Mq (by rfl) z.o rfl Tryz.sizeCommit mQ ?_;intro h r B D;have i:=t.o _ B;have R:h.cell? ⟨c.pb,1,none⟩=some (.pointer (some ⟨c.rb,0,none⟩)):=y.o _ i);simp only[YM]at D;refine(wV c.rb 0 c.now c.past c.roots c.nl c.pastL c.rl h (g.lay.below i).ref (by rw[g.rl];simpa using A)).mono ?_;rintro n d ⟨rfl,j⟩;have V:=j.size;have C:=r.below r.lt j;have H:Hd (BB w d):=i.trans (j.mono (by omega));have K:Hd (aj (d.alloc (.cells kO 103)) d.heap.size 103 Mq):=aj.new d _ _;have I:Hd (aj d b.heap.size 103 Mq):=C;have L:Hd (w.heap.size+1<=b.heap.size/\b.heap.size<d.heap.size):=⟨by omega,by omega⟩;clear j r B D i R t y z C F V;go_upto_region 20 with(refine xv (by rfl) 103 (.tmp 19) (.tmp 121) (by rfl) d.heap.size (by rfl) Mq (by rfl) K.o rfl Tryz.sizeCommit mQ ?_;intro a e p E);simp only[YM]at E;obtain⟨S,T⟩:=L.o;have f:aj a b.heap.size 103 Mq:=(aj.alloc (w:=d) I.o _).of_block (p.block _ (by simp;omega) (by omega));have u:Hd (BB w a):=(H.o.alloc (by omega) _).trans (p.below (by simp;omega) (fun k q=>by omega));have J:Hd (Cz c w a):=Cz.mk ⟨g.lay.below u.o,g.nl,g.rl,g.pl,g.dl,g.t40,g.cnt,g.pst,g.dc⟩ rfl (bj.of_below_all u.o) (fun k q _=>q);have W:a.cell? ⟨b.heap.size,0,none⟩=some (.int .i64 0):=aj.cellK f 0 _ rfl;have X:a.cell? ⟨b.heap.size,1,none⟩=some (.int .u8 0):=aj.cellK f 1 _ rfl;have a6:a.cell? ⟨b.heap.size,2,none⟩=some (.int .u8 0):=aj.cellK f 2 _ rfl;have a7:a.cell? ⟨b.heap.size,3,none⟩=some (.int .u8 0):=aj.cellK f 3 _ rfl;have a8:a.cell? ⟨b.heap.size,4,none⟩=some (.int .u8 0):=aj.cellK f 4 _ rfl;have a9:a.cell? ⟨b.heap.size,5,none⟩=some (.int .u8 0):=aj.cellK f 5 _ rfl;have aa:a.cell? ⟨b.heap.size,6,none⟩=some (.int .u8 0):=aj.cellK f 6 _ rfl;have ab:a.cell? ⟨b.heap.size,7,none⟩=some (.int .u8 0):=aj.cellK f 7 _ rfl;have ac:a.cell? ⟨b.heap.size,8,none⟩=some (.int .u8 0):=aj.cellK f 8 _ rfl
 have ad:a.cell? ⟨b.heap.size,9,none⟩=some (.int .i64 0):=aj.cellK f 9 _ rfl;have Y:a.cell? ⟨b.heap.size,10,none⟩=some (.int .u8 0):=aj.cellK f 10 _ rfl;have Z:a.cell? ⟨b.heap.size,11,none⟩=some (.int .u8 0):=aj.cellK f 11 _ rfl;have a0:a.cell? ⟨b.heap.size,12,none⟩=some (.int .u8 0):=aj.cellK f 12 _ rfl;have a1:a.cell? ⟨b.heap.size,13,none⟩=some (.int .u8 0):=aj.cellK f 13 _ rfl;have a2:a.cell? ⟨b.heap.size,14,none⟩=some (.int .u8 0):=aj.cellK f 14 _ rfl;have a3:a.cell? ⟨b.heap.size,15,none⟩=some (.int .u8 0):=aj.cellK f 15 _ rfl;have a4:a.cell? ⟨b.heap.size,16,none⟩=some (.int .u8 0):=aj.cellK f 16 _ rfl;have a5:a.cell? ⟨b.heap.size,17,none⟩=some (.int .u8 0):=aj.cellK f 17 _ rfl;have ae:a.cell? ⟨d.heap.size,0,none⟩=some (.int .i64 0):=aj.cellK e 0 _ rfl;have af:a.cell? ⟨d.heap.size,1,none⟩=some (.int .u8 0):=aj.cellK e 1 _ rfl;have ap:a.cell? ⟨d.heap.size,2,none⟩=some (.int .u8 0):=aj.cellK e 2 _ rfl;have ar:a.cell? ⟨d.heap.size,3,none⟩=some (.int .u8 0):=aj.cellK e 3 _ rfl;have au:a.cell? ⟨d.heap.size,4,none⟩=some (.int .u8 0):=aj.cellK e 4 _ rfl;have av:a.cell? ⟨d.heap.size,5,none⟩=some (.int .u8 0):=aj.cellK e 5 _ rfl;have ax:a.cell? ⟨d.heap.size,6,none⟩=some (.int .u8 0):=aj.cellK e 6 _ rfl;have aA:a.cell? ⟨d.heap.size,7,none⟩=some (.int .u8 0):=aj.cellK e 7 _ rfl;have aB:a.cell? ⟨d.heap.size,8,none⟩=some (.int .u8 0):=aj.cellK e 8 _ rfl;have aC:a.cell? ⟨d.heap.size,9,none⟩=some (.int .i64 0):=aj.cellK e 9 _ rfl;have ag:a.cell? ⟨d.heap.size,10,none⟩=some (.int .u8 0):=aj.cellK e 10 _ rfl;have ah:a.cell? ⟨d.heap.size,11,none⟩=some (.int .u8 0):=aj.cellK e 11 _ rfl;have ai:a.cell? ⟨d.heap.size,12,none⟩=some (.int .u8 0):=aj.cellK e 12 _ rfl;have ak:a.cell? ⟨d.heap.size,13,none⟩=some (.int .u8 0):=aj.cellK e 13 _ rfl;have al:a.cell? ⟨d.heap.size,14,none⟩=some (.int .u8 0):=aj.cellK e 14 _ rfl;have am:a.cell? ⟨d.heap.size,15,none⟩=some (.int .u8 0):=aj.cellK e 15 _ rfl;have an:a.cell? ⟨d.heap.size,16,none⟩=some (.int .u8 0):=aj.cellK e 16 _ rfl;have ao:a.cell? ⟨d.heap.size,17,none⟩=some (.int .u8 0):=aj.cellK e 17 _ rfl
 have aD:∀w,(Op.equalIn 10000 36 (Value.agg zO) (Value.agg zO)).run Tryz.prog w=.ok true w:=fun w=>by
  have g:=run_equalIn_bytes (P:=Tryz.prog) w 9998 36 5 8 Tryz.underlying36 Tryz.underlying5 Tryz.sizeU8 [0,0,0,0,0,0,0,0] [0,0,0,0,0,0,0,0] rfl rfl;rw[beq_self_eq_true]at g;exact g
 have aO:b.heap.size<a.heap.size:=by omega
 have aP:d.heap.size<a.heap.size:=by omega
 clear e f p E S T;go_wp2;go_ret;exact⟨rfl,J.o⟩
end
section
open Go.ChangeShapes Go.WideShapes Go.ChangeAt Go.RowKit Go.Deep
theorem Tryz.cells40:Tryz.prog.cellsOf 43=24:=by kernel_rfl
theorem Tryz.cellsInt:Tryz.prog.cellsOf 3=1:=by kernel_rfl
theorem Tryz.cellsStr:Tryz.prog.cellsOf 9=1:=by kernel_rfl
theorem Tryz.cellsU8R:Tryz.prog.cellsOf 5=1:=by kernel_rfl
theorem Tryz.cellsDigR:Tryz.prog.cellsOf 36=8:=by kernel_rfl
theorem Tryz.cellsPath:Tryz.prog.cellsOf 41=1:=by kernel_rfl
theorem EM{A:Type}(y:List A)(z:y.length=24):∃a b m r s t u v w x c d e f g h i j k l n o p q,y=[a,b,m,r,s,t,u,v,w,x,c,d,e,f,g,h,i,j,k,l,n,o,p,q]:=by
 match y,z with
 |[a,b,m,r,s,t,u,v,w,x,c,d,e,f,g,h,i,j,k,l,n,o,p,q],_=>exact⟨a,b,m,r,s,t,u,v,w,x,c,d,e,f,g,h,i,j,k,l,n,o,p,q,rfl⟩
theorem FM{m:Type}(a:List m)(l:a.length=10):∃b c d e f g h i j k,a=[b,c,d,e,f,g,h,i,j,k]:=by
 match a,l with
 |[b,c,d,e,f,g,h,i,j,k],_=>exact⟨b,c,d,e,f,g,h,i,j,k,rfl⟩
section
variable {H:Type} {enc:TypeId×Value->H} {w:World} {base:Nat} {sp:Nat->Bool} {held:Bool} {fuel:Nat}
theorem OM{a:Int}(b:(Lit.int .u8 a).wf=true):Value.int .u8 a=.int .u8 ((UInt8.ofNat a.toNat).toNat:Int):=by
 have c:=bounds_u8 b;rw[UInt8.toNat_ofNat_of_lt' (by show a.toNat<256;omega)]
 congr 1;omega
theorem eX{a:List Value}{p:DataW H×List MemPlace}(i:DataW.trod enc Tryz.prog w base sp held fuel 36 a=some p):
  ∃d:List UInt8,d.length=8/\a=d.map fj:=by
 obtain⟨s,r,rfl,rfl,f,q,e⟩:=DataW.trod_array Tryz.underlying36 i;rw[Tryz.cellsDigR]at f;rw[Tryz.cellsU8R]at e;refine⟨a.map (fun g=>UInt8.ofNat (intOf g).toNat),by simp[f],?_⟩;rw[Baj]
 conv=>lhs;rw[<-List.map_id a]
 apply Haj
 intro g m;obtain⟨c,j,rfl⟩:=PN m;have b:=e c (by omega);rw[UM (by omega)]at b;rw[Nat.mul_one]at b;have h:(a.drop c).take 1=[a[c]]:=by
  rw[naj j];rfl
 rw[h]at b;obtain⟨o,k,_,n⟩:=DataW.trod_int Tryz.underlying5 b;have l:a[c]=.int .u8 o:=by simpa using k
 rw[l];exact OM n
theorem VY(a:List UInt8)(b:a.length=8):a.map fj=[Yv a 0,Yv a 1,Yv a 2,Yv a 3,Yv a 4,Yv a 5,Yv a 6,Yv a 7]:=by
 obtain⟨c,d,e,f,g,h,i,j,rfl⟩:=uj a b;rfl
theorem kU{C:List Value}{a4:DataW H×List MemPlace}(ag:DataW.trod enc Tryz.prog w base sp held fuel 43 C=some a4):
  ∃(a:Fy) (a7 a8 J:DataW H) (b:Nat) (an:List MemPlace),C=a.cells/\
   a4.1=.agg [.lit (.int .i64 a.kind),.lit (.int .i64 a.a),.lit (.int .i64 a.b),.lit (.int .i64 a.c),.lit (.string a.s.data.toList),.lit (.string a.t.data.toList),.lit (.string a.u.data.toList),a7,a8,J]/\
   (Lit.int .i64 a.kind).wf=true/\(Lit.int .i64 a.a).wf=true/\(Lit.int .i64 a.b).wf=true/\(Lit.int .i64 a.c).wf=true/\a.d.length=8/\a.e.length=8/\
   DataW.trod enc Tryz.prog w base sp held b 41 [a.path]=some (J,an):=by
 obtain⟨aB,b,rfl,rfl,a3,ah,d⟩:=DataW.trod_struct Tryz.underlying43 ag;rw[Tryz.cells40]at a3;obtain⟨e,f,q,u,v,x,y,z,A,B,g,h,i,j,k,l,m,n,o,p,r,s,t,c,rfl⟩:=EM C a3;obtain⟨aC,aD,aE,aI,aO,aP,aR,a5,a6,G,rfl⟩:=FM aB ah;have S:DataW.trod enc Tryz.prog w base sp held b 3 (List.take (Tryz.prog.cellsOf 3) (List.drop 0 [e,f,q,u,v,x,y,z,A,B,g,h,i,j,k,l,m,n,o,p,r,s,t,c]))=some aC:=d 0 _ rfl;have T:DataW.trod enc Tryz.prog w base sp held b 3 (List.take (Tryz.prog.cellsOf 3) (List.drop 1 [e,f,q,u,v,x,y,z,A,B,g,h,i,j,k,l,m,n,o,p,r,s,t,c]))=some aD:=d 1 _ rfl;have U:DataW.trod enc Tryz.prog w base sp held b 3 (List.take (Tryz.prog.cellsOf 3) (List.drop 2 [e,f,q,u,v,x,y,z,A,B,g,h,i,j,k,l,m,n,o,p,r,s,t,c]))=some aE:=d 2 _ rfl;have V:DataW.trod enc Tryz.prog w base sp held b 3 (List.take (Tryz.prog.cellsOf 3) (List.drop 3 [e,f,q,u,v,x,y,z,A,B,g,h,i,j,k,l,m,n,o,p,r,s,t,c]))=some aI:=d 3 _ rfl;have W:DataW.trod enc Tryz.prog w base sp held b 9 (List.take (Tryz.prog.cellsOf 9) (List.drop 4 [e,f,q,u,v,x,y,z,A,B,g,h,i,j,k,l,m,n,o,p,r,s,t,c]))=some aO:=d 4 _ rfl;have X:DataW.trod enc Tryz.prog w base sp held b 9 (List.take (Tryz.prog.cellsOf 9) (List.drop 5 [e,f,q,u,v,x,y,z,A,B,g,h,i,j,k,l,m,n,o,p,r,s,t,c]))=some aP:=d 5 _ rfl;have Y:DataW.trod enc Tryz.prog w base sp held b 9 (List.take (Tryz.prog.cellsOf 9) (List.drop 6 [e,f,q,u,v,x,y,z,A,B,g,h,i,j,k,l,m,n,o,p,r,s,t,c]))=some aR:=d 6 _ rfl;have Z:DataW.trod enc Tryz.prog w base sp held b 36 (List.take (Tryz.prog.cellsOf 36) (List.drop 7 [e,f,q,u,v,x,y,z,A,B,g,h,i,j,k,l,m,n,o,p,r,s,t,c]))=some a5:=d 7 _ rfl;have a0:DataW.trod enc Tryz.prog w base sp held b 36 (List.take (Tryz.prog.cellsOf 36) (List.drop 15 [e,f,q,u,v,x,y,z,A,B,g,h,i,j,k,l,m,n,o,p,r,s,t,c]))=some a6:=d 8 _ rfl;have F:DataW.trod enc Tryz.prog w base sp held b 41 (List.take (Tryz.prog.cellsOf 41) (List.drop 23 [e,f,q,u,v,x,y,z,A,B,g,h,i,j,k,l,m,n,o,p,r,s,t,c]))=some G:=d 9 _ rfl;clear d;rw[Tryz.cellsInt]at S T U V;rw[Tryz.cellsStr]at W X Y;rw[Tryz.cellsDigR]at Z a0;rw[Tryz.cellsPath]at F
 obtain⟨ai,L,a9,au⟩:=DataW.trod_int Tryz.underlying3 S;obtain⟨ak,M,aa,av⟩:=DataW.trod_int Tryz.underlying3 T;obtain⟨al,N,ab,ax⟩:=DataW.trod_int Tryz.underlying3 U;obtain⟨am,O,ac,aA⟩:=DataW.trod_int Tryz.underlying3 V;obtain⟨ao,P,ad,aS⟩:=DataW.trod_string Tryz.underlying9 W;obtain⟨ap,Q,ae,aT⟩:=DataW.trod_string Tryz.underlying9 X;obtain⟨ar,R,af,b0⟩:=DataW.trod_string Tryz.underlying9 Y;obtain⟨I,a1,D⟩:=eX Z;obtain⟨K,a2,E⟩:=eX a0;rw[VY I a1]at D;rw[VY K a2]at E;simp only[List.drop_zero,List.drop_succ_cons,List.take_succ_cons,List.take_zero,waj,and_true]at L M N O P Q R D E F;subst L M N O P Q R a9 aa ab ac ad ae af;obtain⟨rfl,rfl,rfl,rfl,rfl,rfl,rfl,rfl⟩:=D;obtain⟨rfl,rfl,rfl,rfl,rfl,rfl,rfl,rfl⟩:=E;exact⟨⟨ai,ak,al,am,ao,ap,ar,I,K,c⟩,a5.1,a6.1,G.1,b,G.2,rfl,rfl,au,av,ax,aA,a1,a2,F⟩
theorem xQ{c:Program}{d:TypeId}:∀{f:List (DataW H)} {a:DataW H},a∈f->∀b∈a.weights c d,b∈DataW.weightsAll c d f
 |i::j,a,h,b,e=>by
  simp only[DataW.weightsAll,fN];rcases IN.1 h with rfl|g
  .exact SM e
  .exact RM (xQ g b e)
theorem lU{a:World}{b e:Nat}{f:Value}(c:a.cell? ⟨b,e,none⟩=some f):b<a.heap.size:=by
 unfold World.cell? at c;cases d:a.heap[b]? with
 |none=>simp[d]at c
 |some g=>exact(SN.1 d).1
def XH(enc:TypeId×Value->H)(c:World)(a:Fy):Prop:=
 (Lit.int .i64 a.kind).wf=true/\(Lit.int .i64 a.a).wf=true/\(Lit.int .i64 a.b).wf=true/\(Lit.int .i64 a.c).wf=true/\a.d.length=8/\a.e.length=8/\
 ∃(d:Nat) (b:DataW H) (f:List MemPlace),DataW.trod enc Tryz.prog c 0 (fun _=>true) true d 41 [a.path]=some (b,f)/\∀e∈b.weights Tryz.prog 41,e<=reachBytes
theorem rW{d:World}{w:Option Addr}{j G:Nat}{x:DataW H}{a0:List MemPlace}(J:DataW.trod enc Tryz.prog d 0 (fun _=>true) true fuel 22 [.slice w j G]=some (x,a0))
  (X:∀B∈x.weights Tryz.prog 22,B<=reachBytes):
  ∃n:Nat->Fy,lJ d w j n/\j<=maxLen/\∀a,a<j->XH enc d (n a):=by
 rcases open_slice Tryz.underlying22 J with⟨l,_⟩|⟨s,ae,a6,af,B,F,a5,l,_,ac,ad,A,i,v⟩
 .simp only[waj,Value.slice.injEq,and_true]at l;obtain⟨rfl,rfl,rfl⟩:=l;exact⟨fun _=>⟨0,0,0,0,⟨#[]⟩,⟨#[]⟩,⟨#[]⟩,[],[],.slice none 0 0⟩,fun a c=>absurd c (wN _),nN _,fun a c=>absurd c (wN _)⟩
 simp only[waj,Value.slice.injEq,and_true]at l;obtain⟨rfl,rfl,rfl⟩:=l;simp only[YN]at i;obtain⟨rfl,rfl⟩:=i;rw[Tryz.cells40]at v;have T:∀a,a<j->∃b:Fy,(∃e g,s=⟨e,g,none⟩/\e<d.heap.size/\d.rangeAt e (g+a*24) b.cells)/\b.s.size<=140737488351232/\b.t.size<=140737488351232/\b.u.size<=140737488351232/\XH enc d b:=by
  intro a c;obtain⟨a7,t,Y⟩:=v a (by rw[A];simp;omega);obtain⟨b,a9,aa,I,Z,a1,rfl,y,a4,a2,a3,wc,Q,R,U⟩:=kU Y;have h:∀k∈(F a).weights Tryz.prog 43,k<=reachBytes:=fun k i=>by
   refine X k ?_;simp only[DataW.weights,Tryz.underlying22,IN,fN];exact RM (SM (xQ (vN.2 ⟨a,List.mem_range.2 c,rfl⟩) k i))
  simp only at y;rw[y]at h;simp only[DataW.weights,Tryz.underlying43,ZM,dN,DataW.weightsEach,ON,XN,fN,eN]at h;have V:reachBytes=140737488351232:=rfl;have C:=h b.s.data.toList.length (by simp);have D:=h b.t.data.toList.length (by simp);have E:=h b.u.data.toList.length (by simp);rw[V,Raj,ByteArray.size_data]at C D E;have u:∀f m,b.cells[f]? =some m->d.cell? ((s.add (a*24)).add f)=some m:=fun f m r=>by
   unfold World.cells? at t;rw[if_pos (nN _)]at t;have P:f<24:=(kN.1 r).1;have:=mapM_some_get t f f (by simp[P]);rw[this];exact r
  obtain⟨e,g,sp⟩:=s;have ab:=u 1 (.int .i64 b.a) rfl;have W:sp=none:=by
   by_cases O:a=0
   .subst O;have o:=u 0 (.int .i64 b.kind) rfl;simpa[Addr.add]using World.cell?_spot o
   .obtain⟨a8,p,_⟩:=v 0 (by rw[A];simp;omega);unfold World.cells? at p;rw[if_pos (nN _)]at p;have o:=mapM_some_get p 0 0 (by simp);have S:=mapM_some_length p;simp at S;rw[UM (by omega)]at o;simpa[Addr.add]using World.cell?_spot o
  subst W;have q:d.rangeAt e (g+a*24) b.cells:=fun f m r=>by
   have:=u f m r;rw[mx,mx]at this;exact this
  exact⟨b,⟨e,g,rfl,lU (q 0 (.int .i64 b.kind) rfl),q⟩,C,D,E,a4,a2,a3,wc,Q,R,Z,I,a1,U,fun k i=>h k (by simp[i])⟩
 obtain⟨n,z⟩:= @choose_lt Fy ⟨⟨0,0,0,0,⟨#[]⟩,⟨#[]⟩,⟨#[]⟩,[],[],.slice none 0 0⟩⟩ j _ T;refine⟨n,fun a c=>?_,by omega,fun a c=>(z a c).2.2.2.2⟩;obtain⟨⟨e,g,rfl,N,q⟩,K,L,M,_⟩:=z a c;exact⟨e,g,rfl,N,q,K,L,M⟩
end
end
end Go.Proofs.YtekegfbjbainhaaGreat
