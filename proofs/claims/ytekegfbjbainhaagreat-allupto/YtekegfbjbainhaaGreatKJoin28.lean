import Derived.Test.YtekegfbjbainhaaGreatKJoin27
set_option maxRecDepth 100000
set_option maxHeartbeats 4000000
set_option linter.unusedVariables false
set_option linter.unusedSimpArgs false
namespace Go.Proofs.YtekegfbjbainhaaGreat
open Go.RowKit
attribute [local go_sem↓] Go.wp_at_zero Go.wp_at_succ
theorem tU(j:List UInt8):∀(h:Nat) (c:List ej) (e:List UInt8) (d:Nat) (b:List ej) (f:List UInt8),Hx h c->mw j h c e=some ((d,b),f)->Hx d b
 |0,c,e,d,b,f,g,a=>by
  have i:some ((0,c),e)=some ((d,b),f):=a;simp only[yN,YN]at i;obtain⟨⟨rfl,rfl⟩,rfl⟩:=i;exact g
 |h+1,c,e,d,b,f,g,a=>by
  unfold mw at a
  split at a
  .split at a
   .cases a
   .rename_i n m o l
    split at a
    .rename_i k
     subst k;exact tU j _ _ _ _ _ _ (ry l) a
    .cases a
  .simp only[yN,YN]at a;obtain⟨⟨rfl,rfl⟩,rfl⟩:=a;exact g
theorem kF{a:List ej}(s:Kz a)(b:List UInt8):(a.find? (fun d=>d.key==b)).map (·.more)=if Qj a b=true then some (a.getD (pj a b) BQ).more else none:=by
 have k:=rx a b s;by_cases j:pj a b<a.length
 .have l:Qj a b=(a[pj a b].key==b):=by unfold Qj;rw[UM j];rfl
  have u:a.getD (pj a b) BQ=a[pj a b]:=by rw[iaj,UM j];rfl
  cases h:a[pj a b].key==b with
  |true=>
   rw[l,h,if_pos rfl,u];have:a.find? (fun d=>d.key==b)=some a[pj a b]:=by
    rw[List.find?_eq_some_iff_getElem];refine⟨h,pj a b,j,rfl,fun c f=>?_⟩;have e:=k c (by omega);have n:Rz b a[c]=true:=by rw[e];simp[f]
    unfold Rz at n;simp only[Bool.not_eq_true',beq_eq_false_iff_ne];intro g;rw[g]at n;exact absurd n (by rw[Dw];simp)
   rw[this];rfl
  |false=>
   rw[l,h,if_neg (by simp)];have:a.find? (fun d=>d.key==b)=none:=by
    rw[List.find?_eq_none];intro d q g;obtain⟨c,f,rfl⟩:=Kaj.1 q;have i:a[c].key=b:=by simpa using g
    have e:=k c f;have o:Rz b a[c]=false:=by unfold Rz;rw[i];exact Dw b
    rw[o]at e;have v:pj a b<=c:=by
     by_cases m:c<pj a b
     .simp[m]at e
     .omega
    by_cases m:c=pj a b
    .subst m;rw[i]at h;simp at h
    .have p:=Vaj.1 s (pj a b) c j f (by omega);have t:=k (pj a b) j;have r:Rz b a[pj a b]=false:=by rw[t];simp
     unfold Rz at r;rw[i]at p;rw[r]at p;cases p
   rw[this];rfl
 .have l:Qj a b=false:=by unfold Qj;rw[Saj (by omega)];rfl
  rw[l,if_neg (by simp)];have:a.find? (fun d=>d.key==b)=none:=by
   rw[List.find?_eq_none];intro d q g;obtain⟨c,f,rfl⟩:=Kaj.1 q;have i:a[c].key=b:=by simpa using g
   have e:=k c f;have o:Rz b a[c]=false:=by unfold Rz;rw[i];exact Dw b
   rw[o]at e;have:c<pj a b:=by omega
   simp[this]at e
  rw[this];rfl
theorem uU(d a c:List UInt8):(nw d a c=none/\Hy d a a c=none)\/∃b,Hy d a a c=some b/\Kz b/\b.length<=60/\(∀e∈b,e.more.length<=12)/\nw d a c=some ((b.find? (fun e=>e.key==a)).map (·.more)):=by
 unfold nw Hy dk;cases q:Wq (some c) d with
 |none=>exact SM ⟨rfl,rfl⟩
 |some t=>
  obtain⟨⟨j,i⟩,k⟩:=t;have l:=ry q;simp only;rw[iK a j i k l.rise];cases p:mw a j i k with
  |none=>exact SM ⟨rfl,rfl⟩
  |some s=>
   obtain⟨⟨n,m⟩,o⟩:=s;have g:=tU a j i k n m o l p;simp only[GN,WU];by_cases h:o=[]
   .subst h;by_cases f:n=0
    .subst f;exact RM ⟨m,by simp,g.rise,g.len,g.low rfl,by simp⟩
    .exact RM ⟨[],by simp[f],List.Pairwise.nil,by simp,fun e r=>(by cases r),by simp[f]⟩
   .exact SM ⟨by simp[h],by simp[h]⟩
theorem qQ(i:dj)(b:List UInt8)(a:World)(g:BS a i b)(v:b.length<=1000):
  CP 30 #[i.val] a fun q l=>∃f:dj,q=.returned (.slice f.a f.n f.cap)/\rj l a.heap.size f.val b/\Below a.heap.size a l:=by
 obtain⟨j,e,k⟩:=i;obtain⟨d,c,h,_⟩:=g;simp only at d c h;unfold dj.val;have C:=fun a=>run_eql_slice_nil (P:=Tryz.prog) a 38 5 j e k Tryz.underlying38;cases j with
 |none=>
  obtain rfl:b=[]:=by
   cases b with
   |nil=>rfl
   |cons I G=>obtain⟨A,F,r,_⟩:=d 0 (by simp);cases r
  obtain rfl:e=0:=by simpa using c
  obtain rfl:=h rfl;clear d c h v;go_enter Tryz.func30,Tryz.ntmps30;go_wp2;go_ret;exact⟨⟨none,0,0⟩,rfl,iN _ _ _ _,VM _ _⟩
 |some m=>
  have s:rj (a.alloc (.cells #[] 5)) a.heap.size (.slice (some ⟨a.heap.size,0,none⟩) 0 0) []:=rj.built a a.heap.size [] (TM _) (by simp[maxLen]);have y:jq (a.alloc (.cells #[] 5)) (some m) b:=d.below tO (TM _);have n:Hd (e=b.length):=c;clear c d;go_enter Tryz.func30,Tryz.ntmps30;go_wp2_with (at_builtin;refine Hq (by rfl) (.tmp 5) (.tmp 6) (by rfl) a.heap.size _ [] (by rfl) s (some m) e k b (by rfl) n.o y (fun g=>by cases g) (by simp;omega) (by simp) ?_;intro o z p H w x D t B;clear w);go_ret;refine⟨⟨o,z,p⟩,rfl,x,?_⟩;exact tO.trans (t.below (by simp) (fun E u=>by simp[Value.ownBlock]at u;omega))
theorem EW(l j:dj)(k n o:List UInt8)(a:World)(w:o.length=8)(p:BS a l k)(u:BS a j n)(v:j.n<=j.cap)(s:n.length<=1000000000):
  CP 28 #[dV o,.slice l.a l.n l.cap,.slice j.a j.n j.cap] a (gV a (Oq j) (Hy o k k n)):=by
 obtain⟨b,c,d,e,f,g,h,i,rfl⟩:=uj o w;have m:Below a.heap.size a (a.alloc (.cells (cO b c d e f g h i) 36)):=tO;have r:Hd (Calls _ _ _ _ _):=DQ l l j k k n [b,c,d,e,f,g,h,i] _ rfl (p.below m) (p.below m) (u.below m) v s;rw[show dV [b,c,d,e,f,g,h,i]=.agg (cO b c d e f g h i)from rfl]at r⊢;have G:(a.alloc (.cells (cO b c d e f g h i) 36)).cell? ⟨a.heap.size,0,none⟩=some (.int .u8 b.toNat):=(aj.new a 36 ([b,c,d,e,f,g,h,i].map fj)).cell 0 (by simp);have H:(a.alloc (.cells (cO b c d e f g h i) 36)).cell? ⟨a.heap.size,1,none⟩=some (.int .u8 c.toNat):=(aj.new a 36 ([b,c,d,e,f,g,h,i].map fj)).cell 1 (by simp);have I:(a.alloc (.cells (cO b c d e f g h i) 36)).cell? ⟨a.heap.size,2,none⟩=some (.int .u8 d.toNat):=(aj.new a 36 ([b,c,d,e,f,g,h,i].map fj)).cell 2 (by simp);have J:(a.alloc (.cells (cO b c d e f g h i) 36)).cell? ⟨a.heap.size,3,none⟩=some (.int .u8 e.toNat):=(aj.new a 36 ([b,c,d,e,f,g,h,i].map fj)).cell 3 (by simp);have K:(a.alloc (.cells (cO b c d e f g h i) 36)).cell? ⟨a.heap.size,4,none⟩=some (.int .u8 f.toNat):=(aj.new a 36 ([b,c,d,e,f,g,h,i].map fj)).cell 4 (by simp);have L:(a.alloc (.cells (cO b c d e f g h i) 36)).cell? ⟨a.heap.size,5,none⟩=some (.int .u8 g.toNat):=(aj.new a 36 ([b,c,d,e,f,g,h,i].map fj)).cell 5 (by simp);have M:(a.alloc (.cells (cO b c d e f g h i) 36)).cell? ⟨a.heap.size,6,none⟩=some (.int .u8 h.toNat):=(aj.new a 36 ([b,c,d,e,f,g,h,i].map fj)).cell 6 (by simp);have N:(a.alloc (.cells (cO b c d e f g h i) 36)).cell? ⟨a.heap.size,7,none⟩=some (.int .u8 i.toNat):=(aj.new a 36 ([b,c,d,e,f,g,h,i].map fj)).cell 7 (by simp);have x:Hd (BB a (a.alloc (.cells (cO b c d e f g h i) 36))):=m;clear w p u v s m;generalize Hy [b,c,d,e,f,g,h,i] k k n=y at*;go_enter Tryz.func28,Tryz.ntmps28;go_wp2_with fail;refine r.o.mono ?_;rintro z D ⟨A,t⟩;have q:Hd (BB a D):=x.o.trans (A.mono (by simp));cases y with
 |none=>
  obtain rfl:z=_:=t;go_wp2
  go_ret2
  exact⟨q.o,rfl⟩
 |some F=>
  obtain⟨C,E,rfl,B⟩:=t;unfold dj.val;go_wp2
  go_ret2
  exact⟨q.o,C,E,rfl,B.toBase (by simp)⟩
def KL(b:World)(a:Nat×Option (List UInt8))(e:Ending)(d:World):Prop:=∃c:dj,e=.returned (.tuple #[.agg #[.bool a.2.isSome,c.val],.int .i64 (a.1:Int)])/\Below b.heap.size b d/\rj d b.heap.size c.val (a.2.getD [])
theorem lF(t J:dj)(b x a1:List UInt8)(a:World)(aR:a1.length=8)(r:BS a t b)(aO:BS a J x)(aP:J.n<=J.cap)(aI:b.length<=maxLen)(ax:x.length<=1000000000):
  CP 15 #[dV a1,t.val,J.val] a (KL a (vk a1 b x)):=by
 obtain⟨c,d,e,f,g,h,i,j,rfl⟩:=uj a1 aR;have P:Below a.heap.size a ((a.alloc (.cells (cO c d e f g h i j) 36)).alloc (.cells #[.bool false,.slice none 0 0] 49)):=tO.alloc (by simp) _;have I:Hd (Calls _ _ _ _ _):=Mv t.a t.n t.cap ((a.alloc (.cells (cO c d e f g h i j) 36)).alloc (.cells #[.bool false,.slice none 0 0] 49)) (by rw[r.n];exact aI);have aE:(decide (1<=t.n)&&decide (t.n<=12))=Zj b:=by rw[r.n];rfl
 rw[aE]at I;rw[show dV [c,d,e,f,g,h,i,j]=.agg (cO c d e f g h i j)from rfl];unfold dj.val;have M:Hd (BB a ((a.alloc (.cells (cO c d e f g h i j) 36)).alloc (.cells #[.bool false,.slice none 0 0] 49))):=P;have u:Hd (aj ((a.alloc (.cells (cO c d e f g h i j) 36)).alloc (.cells #[.bool false,.slice none 0 0] 49)) a.heap.size 36 ([c,d,e,f,g,h,i,j].map fj)):=(aj.new a 36 ([c,d,e,f,g,h,i,j].map fj)).alloc _;have B:Hd (aj ((a.alloc (.cells (cO c d e f g h i j) 36)).alloc (.cells #[.bool false,.slice none 0 0] 49)) (a.heap.size+1) 49 [.bool false,.slice none 0 0]):=aj.new_at _ _ _ _ (by simp);have ao:Hd (BS ((a.alloc (.cells (cO c d e f g h i j) 36)).alloc (.cells #[.bool false,.slice none 0 0] 49)) t b):=r.below P;have a8:Hd (Calls _ _ _ _ _):=EW t J b x [c,d,e,f,g,h,i,j] ((a.alloc (.cells (cO c d e f g h i j) 36)).alloc (.cells #[.bool false,.slice none 0 0] 49)) rfl (r.below P) (aO.below P) aP ax;rw[show dV [c,d,e,f,g,h,i,j]=.agg (cO c d e f g h i j)from rfl]at a8;clear r aO aP aI aE aR P ax;obtain⟨y,af⟩:∃y,vk [c,d,e,f,g,h,i,j] b x=y:=⟨_,rfl⟩;rw[af];have ar:Hd (vk [c,d,e,f,g,h,i,j] b x=y):=af;clear af;go_enter Tryz.func15,Tryz.ntmps15;go_upto_region 1 with fail;generalize (a.alloc (.cells (cO c d e f g h i j) 36)).alloc (.cells #[.bool false,.slice none 0 0] 49)=n at*;cases Y:Zj b with
 |false=>
  rw[Y]at I;have V:Hd (y=(1,none)):=by unfold Hd;rw[<-ar.o];unfold vk;rw[if_neg (by rw[Y];simp)]
  have E:=B.o.cell 0 (by simp);have F:=B.o.cell 1 (by simp);have a9:=B.o.frozen 0;have aa:=B.o.frozen 1;simp only[cN,gN]at E F;go_wp2_with (go_at_call 27;refine I.o.mono ?_;rintro bn al ⟨rfl,S⟩;obtain rfl:n=al:=S.symm;clear S);have X:bj (fun o=>o=a.heap.size+1) n ((n.setCell ⟨a.heap.size+1,0,none⟩ (.bool false)).setCell ⟨a.heap.size+1,1,none⟩ (.slice none 0 0)):=((bj.refl (fun o=>o=a.heap.size+1) n).setCell (p:=⟨a.heap.size+1,0,none⟩) rfl _).setCell (p:=⟨a.heap.size+1,1,none⟩) rfl _;exact Lq (k:=6) (k2:=7) (cs:=[.bool false,.slice none 0 0]) rfl rfl rfl (by simpa using(aj.set B.o 0 (.bool false)).set 1 (.slice none 0 0)) Tryz.underlying49 rfl Tryz.sizeAnswer rfl (by rw[V.o];exact⟨⟨none,0,0⟩,rfl,M.o.trans (X.below M.o.size (fun o r=>by omega)),iN _ _ _ _⟩)
 |true=>
  rw[Y]at I;have V:Hd (y=match nw [c,d,e,f,g,h,i,j] b x with
    |none=>(5,none)
    |some b7=>(0,b7)):=by unfold Hd;rw[<-ar.o];unfold vk;rw[if_pos Y];cases nw [c,d,e,f,g,h,i,j] b x<;>rfl
  have bc:n.cell? ⟨a.heap.size,0,none⟩=some (.int .u8 c.toNat):=u.o.cell 0 (by simp);have bd:n.cell? ⟨a.heap.size,1,none⟩=some (.int .u8 d.toNat):=u.o.cell 1 (by simp);have be:n.cell? ⟨a.heap.size,2,none⟩=some (.int .u8 e.toNat):=u.o.cell 2 (by simp);have bf:n.cell? ⟨a.heap.size,3,none⟩=some (.int .u8 f.toNat):=u.o.cell 3 (by simp);have bg:n.cell? ⟨a.heap.size,4,none⟩=some (.int .u8 g.toNat):=u.o.cell 4 (by simp);have bh:n.cell? ⟨a.heap.size,5,none⟩=some (.int .u8 h.toNat):=u.o.cell 5 (by simp);have bi:n.cell? ⟨a.heap.size,6,none⟩=some (.int .u8 i.toNat):=u.o.cell 6 (by simp);have bk:n.cell? ⟨a.heap.size,7,none⟩=some (.int .u8 j.toNat):=u.o.cell 7 (by simp);go_wp2_with (go_at_call 27;refine I.o.mono ?_;rintro bn al ⟨rfl,S⟩;obtain rfl:n=al:=S.symm;clear S);refine a8.o.mono ?_;rintro O z ⟨W,Z⟩;have C:Hd (aj z (a.heap.size+1) 49 [.bool false,.slice none 0 0]):=aj.below B.o B.o.lt W;have a4:Hd (BB a z):=M.o.trans (W.mono M.o.size);have b5:Hd (BS z t b):=ao.o.below W;have br:Hd (a.heap.size<=n.heap.size):=M.o.size;have a6:Hd (∀(A:World) (m G:Value),BB z A->aj ((A.setCell ⟨a.heap.size+1,0,none⟩ m).setCell ⟨a.heap.size+1,1,none⟩ G) (a.heap.size+1) 49 [m,G]/\Below a.heap.size a ((A.setCell ⟨a.heap.size+1,0,none⟩ m).setCell ⟨a.heap.size+1,1,none⟩ G)/\bj (fun o=>o=a.heap.size+1) A ((A.setCell ⟨a.heap.size+1,0,none⟩ m).setCell ⟨a.heap.size+1,1,none⟩ G)):=fun A m G b1=>by
   have X:bj (fun o=>o=a.heap.size+1) A ((A.setCell ⟨a.heap.size+1,0,none⟩ m).setCell ⟨a.heap.size+1,1,none⟩ G):=((bj.refl (fun o=>o=a.heap.size+1) A).setCell (p:=⟨a.heap.size+1,0,none⟩) rfl _).setCell (p:=⟨a.heap.size+1,1,none⟩) rfl _;have aA:=a4.o.trans (b1.mono a4.o.size);exact⟨by simpa using(aj.set (aj.below C.o C.o.lt b1) 0 m).set 1 G,aA.trans (X.below aA.size (fun o r=>by omega)),X⟩
  clear bc bd be bf bg bh bi bk a8 I W B u ao;rcases uU [c,d,e,f,g,h,i,j] b x with⟨aD,b0⟩|⟨l,aS,ag,ac,av,aC⟩
  .rw[b0]at Z;obtain rfl:O=_:=Z;have N:Hd (y=(5,none)):=by unfold Hd;rw[V.o,aD]
   have E:=C.o.cell 0 (by simp);have F:=C.o.cell 1 (by simp);have a9:=C.o.frozen 0;have aa:=C.o.frozen 1;simp only[cN,gN]at E F;clear aD b0;go_wp2;obtain⟨v,w,ab⟩:=a6.o z (.bool false) (.slice none 0 0) (VM _ _);exact Lq (k:=6) (k2:=7) (cs:=[.bool false,.slice none 0 0]) rfl rfl rfl v Tryz.underlying49 rfl Tryz.sizeAnswer rfl (by rw[N.o];exact⟨⟨none,0,0⟩,rfl,w,iN _ _ _ _⟩)
  .rw[aS]at Z;obtain⟨m,K,rfl,q⟩:=Z;have au:Hd (y=(0,if Qj l b=true then some (l.getD (pj l b) BQ).more else none)):=by unfold Hd;rw[V.o,aC,<-kF ag b]
   have ah:m.n=K.length:=(jj.ofOwn (s:=m) q.own).2;have a7:Hd (Calls _ _ _ _ _):=kJ m K l t b z ah q.len.symm (by rw[q.len];exact ac) (jj.ofOwn (s:=m) q.own).1 (fun ak v w=>⟨(q.en ak v w).key.bs,((q.en ak v w).low rfl).1.bs,((q.en ak v w).low rfl).2⟩) ag b5.o;have an:Hd (lz 0 z (Oq J) n.heap.size m K l):=q;have bp:Hd (l.length<=60):=ac;have b3:Hd (∀bo∈l,bo.more.length<=12):=av;have b6:Hd (m.n=K.length):=ah;clear aS ag ac av aC q ah;unfold dj.val;unfold dj.val at a7;go_wp2_with fail;refine a7.o.mono ?_;rintro O T ⟨rfl,Q⟩;have H:Hd (aj T (a.heap.size+1) 49 [.bool false,.slice none 0 0]):=aj.below C.o C.o.lt Q;cases a0:Qj l b with
   |false=>
    have N:Hd (y=(0,none)):=by unfold Hd;rw[au.o,a0];rfl
    have E:=H.o.cell 0 (by simp);have F:=H.o.cell 1 (by simp);have a9:=H.o.frozen 0;have aa:=H.o.frozen 1;simp only[cN,gN]at E F;go_wp2;obtain⟨v,w,ab⟩:=a6.o T (.bool false) (.slice none 0 0) Q;exact Lq (k:=6) (k2:=7) (cs:=[.bool false,.slice none 0 0]) rfl rfl rfl v Tryz.underlying49 rfl Tryz.sizeAnswer rfl (by rw[N.o];exact⟨⟨none,0,0⟩,rfl,w,iN _ _ _ _⟩)
   |true=>
    have R:=Lv a0;have N:Hd (y=(0,some l[pj l b].more)):=by
     unfold Hd;rw[au.o,a0,if_pos rfl,iaj,UM R];rfl
    have U:=an.o.below Q;have ai:pj l b<K.length:=by rw[an.o.len];exact R
    obtain⟨b8,bl,aB,bs,aT⟩:=Mk.range (jj.ofOwn (s:=m) U.own).1 U.d8 _ ai;have q:=U.en _ ai R;have ba:=b3.o _ (bN R);have bb:(pj l b:Int)<m.n:=by rw[b6.o];omega
    generalize l[pj l b].more=b2 at*;generalize l[pj l b].key=bu at*;generalize K[pj l b]=a3 at*;generalize pj l b=bm at*;have b9:T.cell? ⟨b8,bl+bm*10+1,none⟩=some (.slice a3.v.a a3.v.n a3.v.cap):=aT 1 _ rfl;have am:Hd (Calls _ _ _ _ _):=qQ a3.v b2 T (q.low rfl).1.bs (by omega);have a5:Hd (BB z T):=Q;obtain⟨bv,bA,bw⟩:=m;simp only at aB bb;subst aB;unfold dj.val at am;clear aT q U ai R a0 a7 Q ba;go_wp2_with fail;refine am.o.mono ?_;rintro O a2 ⟨D,rfl,ae,ad⟩;have b4:Hd (BB z a2):=a5.o.trans (ad.mono a5.o.size);have L:Hd (aj a2 (a.heap.size+1) 49 [.bool false,.slice none 0 0]):=aj.below H.o H.o.lt ad;have E:=L.o.cell 0 (by simp);have F:=L.o.cell 1 (by simp);have a9:=L.o.frozen 0;have aa:=L.o.frozen 1;simp only[cN,gN]at E F;have ap:Hd (rj a2 a.heap.size D.val b2):=Hj ae (fun o r=>by have:=(ae.lt o r).1;have:=a4.o.size;have:=a5.o.size;omega);clear ae ad b9;go_wp2;obtain⟨v,w,ab⟩:=a6.o a2 (.bool true) (.slice D.a D.n D.cap) b4.o;exact Lq (k:=6) (k2:=7) (cs:=[.bool true,.slice D.a D.n D.cap]) rfl rfl rfl v Tryz.underlying49 rfl Tryz.sizeAnswer rfl (by rw[N.o];exact⟨D,rfl,w,ij ap.o ab (fun o r O=>xj ap.o L.o (by decide) (by rw[r,O]))⟩)
def zq(b:List (dj×dj)):List dj:=b.flatMap (fun a=>[a.1,a.2])
def Ez(b:List ej):List (List UInt8):=b.flatMap (fun a=>[a.key,a.more])
def rK(b c:dj):Prop:=∀a,b.val.ownBlock=some a->c.val.ownBlock≠some a
theorem zx(a:List (dj×dj)):(zq a).length=a.length*2:=by
 induction a with
 |nil=>rfl
 |cons c a b=>simp only[zq,JN,XM]at b⊢;rw[b];simp;omega
theorem Zx(a:List ej):(Ez a).length=a.length*2:=by
 induction a with
 |nil=>rfl
 |cons c d b=>simp only[Ez,JN,XM]at b⊢;rw[b];simp;omega
structure oz(w:World)(base:Nat)(v:dj)(es:List (dj×dj))(l:List ej):Prop where
 own:w.ownsRow base 164 2 v.val es.length (xz es)
 len:es.length=l.length
 ob:∀i (h1:i<(zq es).length) (h2:i<(Ez l).length),rj w base (zq es)[i].val (Ez l)[i]
 pw:(zq es).Pairwise rK
theorem oz.nil(c:World)(a:Nat):oz c a ⟨none,0,0⟩ [] []:=⟨iN _ _ _ _,rfl,fun d b=>absurd b (wN _),List.Pairwise.nil⟩
theorem oz.frame{n o:World}{S:Nat->Prop}{c:Nat}{m:dj}{f:List (dj×dj)}{l:List ej}(b:oz n c m f l)(j:bj S n o)(i:∀a,S a->a<c):oz o c m f l:=
 ⟨ij b.own j (fun a e d=>by have:=(b.own.lt a e).1;have:=i a d;omega),b.len,fun k g h=>ij (b.ob k g h) j (fun a e d=>by have:=((b.ob k g h).lt a e).1;have:=i a d;omega),b.pw⟩
theorem oz.below{w w':World}{a:Nat}{d:dj}{b:List (dj×dj)}{c:List ej}(f:oz w a d b c)(g:Below w.heap.size w w'):oz w' a d b c:=f.frame (bj.of_below_all (S:=fun _=>False) g) (fun _ e=>e.elim)
theorem oz.toBase{m:World}{d e:Nat}{l:dj}{f:List (dj×dj)}{k:List ej}(a:oz m d l f k)(i:e<=d):oz m e l f k:=
 ⟨Hj a.own (fun c b=>WM i (a.own.lt c b).1),a.len,fun j g h=>Hj (a.ob j g h) (fun c b=>WM i ((a.ob j g h).lt c b).1),a.pw⟩
theorem ow{k:World}{l m g h t u r s:Nat}{i j:Value}{v w:List Value}(n:k.ownsRow l g t i r v)(o:k.ownsRow m h u j s w)(q:g≠h):∀f,i.ownBlock=some f->j.ownBlock≠some f:=fun f a b=>by
 rcases n.2 with⟨d,_⟩|⟨B,x,z,d,D,p,_⟩
 .rw[d]at a;simp[Value.ownBlock]at a
 .rcases o.2 with⟨e,_⟩|⟨C,y,A,e,E,c,_⟩
  .rw[e]at b;simp[Value.ownBlock]at b
  .rw[d]at a;rw[e]at b;simp[Value.ownBlock]at a b;subst a;subst b;rw[p]at c;simp at c;exact q c.2
theorem oz.push{l o:World}{g N:Nat}{v v':dj}{b:List (dj×dj)}{h:List ej}{d e:dj}{f:ej}(j:oz l g v b h)(x:rj l g d.val f.key)(z:rj l g e.val f.more)(D:∀c (J:c<(zq b).length),∀a,(zq b)[c].val.ownBlock=some a->a<N)(E:∀a,d.val.ownBlock=some a->N<=a)(F:∀a,e.val.ownBlock=some a->N<=a)(y:rK d e)
  (G:o.ownsRow g 164 2 v'.val (b.length+1) (xz b++xz [(d,e)]))(C:bj (fun a=>v.val.ownBlock=some a) l o):oz o g v' (b++[(d,e)]) (h++[f]):=by
 have p:zq (b++[(d,e)])=zq b++[d,e]:=by simp[zq]
 have u:Ez (h++[f])=Ez h++[f.key,f.more]:=by simp[Ez]
 have n:(zq b).length=(Ez h).length:=by rw[zx,Zx,j.len]
 refine⟨by rw[XM,gZ];exact G,by rw[XM,XM,j.len];rfl,fun c q w=>?_,?_⟩
 .have t:rj l g (zq (b++[(d,e)]))[c].val (Ez (h++[f]))[c]:=by
   simp only[p,u]at q w⊢;by_cases k:c<(zq b).length
   .rw[kaj k,kaj (by rw[<-n];exact k)];exact j.ob c k _
   .rw[haj (by omega),haj (by rw[<-n];omega)];simp only[<-n];have B:c - (zq b).length=0\/c - (zq b).length=1:=by simp at q;omega
    rcases B with i|i
    .simp only[i];exact x
    .simp only[i];exact z
  exact ij t C (fun a m i=>ow t j.own (by decide) a m i)
 .rw[p,bbj];refine⟨j.pw,by simp[y],fun H A I r a m s=>?_⟩;obtain⟨c,k,rfl⟩:=Kaj.1 A;have:=D c k a m;simp only[IN,jaj,or_false]at r;rcases r with rfl|rfl
  .have:=E a s;omega
  .have:=F a s;omega
def LL(a:World)(b:Nat×List ej)(e:Ending)(d:World):Prop:=∃(c:dj) (f:List (dj×dj)),e=.returned (.tuple #[c.val,.int .i64 (b.1:Int)])/\Below a.heap.size a d/\oz d a.heap.size c f b.2
theorem rQ(d a b c:List UInt8):oJ d a b c=(Hy d a b c).map (fun e=>e.filter (yv a b)):=by
 rw[eV];unfold Hy jF;cases dk d a b c with
 |none=>rfl
 |some g=>
  obtain⟨e,h⟩:=g;simp only;by_cases f:h=[]
  .simp[f]
  .simp[f]
theorem PG(k c g f:List UInt8)(b:List ej)(a:Hy k c g f=some b):b.length<=f.length:=by
 unfold Hy dk at a;cases d:Wq (some f) k with
 |none=>rw[d]at a;cases a
 |some l=>
  obtain⟨⟨i,h⟩,j⟩:=l;rw[d]at a;simp only at a;cases e:Kq c g i h j with
  |none=>rw[e]at a;cases a
  |some m=>
   obtain⟨q,n⟩:=m;rw[e]at a;simp only at a
   split at a
   .cases a;have o:=BJ c g i h j b n e;have p:=gJ d;omega
   .cases a
theorem sK(g k:List UInt8):∀(f:Nat) (h:List ej) (l:List UInt8) (e:List ej) (i:List UInt8),Hx f h->Kq g k f h l=some (e,i)->∀a∈e,a.key.length<=12/\a.more.length<=12
 |0,h,l,e,i,p,n=>by
  have r:some (h,l)=some (e,i):=n;simp only[yN,YN]at r;obtain⟨rfl,rfl⟩:=r;exact fun a c=>⟨(p.key a c).2,p.low rfl a c⟩
 |f+1,h,l,e,i,p,n=>by
  have y:∀(q:List ej) (j:List ej×List UInt8),(∀a∈j.1,a.key.length<=12/\a.more.length<=12)->q.foldlM (Jv (Kq g k f) f) j=some (e,i)->∀a∈e,a.key.length<=12/\a.more.length<=12:=by
   intro q
   induction q with
   |nil=>intro j o d;simp only[List.foldlM_nil]at d;cases d;exact o
   |cons D E x=>
    intro j o d;simp only[List.foldlM_cons]at d;cases b:Jv (Kq g k f) f j D with
    |none=>rw[b]at d;cases d
    |some C=>
     rw[b]at d;refine x C ?_ d;unfold Jv at b
     split at b
     .cases b
     .rename_i t s u w
      split at b
      .rename_i v
       subst v;cases m:Kq g k t s u with
       |none=>rw[m]at b;cases b
       |some z=>
        obtain⟨A,B⟩:=z;rw[m]at b;simp only[GN,yN]at b;subst b;intro a c;rcases fN.1 c with c|c
        .exact o a c
        .exact sK g k t s u A B (ry w) m a c
      .cases b
  exact y _ _ (fun a c=>by cases c) n
theorem tK(k c f i:List UInt8)(b:List ej)(a:Hy k c f i=some b):∀l∈b,l.key.length<=12/\l.more.length<=12:=by
 unfold Hy dk at a;cases d:Wq (some i) k with
 |none=>rw[d]at a;cases a
 |some m=>
  obtain⟨⟨h,g⟩,j⟩:=m;rw[d]at a;simp only at a;cases e:Kq c f h g j with
  |none=>rw[e]at a;cases a
  |some n=>
   obtain⟨p,o⟩:=n;rw[e]at a;simp only at a
   split at a
   .cases a;exact sK c f h g j b o (ry d) e
   .cases a
structure Tw where
 r:Yq
 kb:Nat
def ML(a:Tw)(b:Nat):Prop:=cy a.r b\/b=a.kb
structure Ox(w:World)(es:dj)(hs:List Tw):Prop where
 own:w.ownsRow 0 65 5 es.val hs.length (ux 0 (hs.map (·.r)))
 ok:∀i (h:i<hs.length),Sv w (bz hs[i].kb) 2 hs[i].r/\Rw w i hs[i].kb
 apart:∀h∈hs,∀k,ML h k->es.val.ownBlock≠some k
def ly(b:dj)(d:List Tw)(a:Nat):Prop:=b.val.ownBlock=some a\/∃c∈d,ML c a
theorem Ox.frame{j k:World}{S:Nat->Prop}{f:dj}{b:List Tw}(c:Ox j f b)(h:bj S j k)(g:∀a,ly f b a->¬S a):Ox k f b:=
 ⟨ij c.own h (fun a i=>g a (SM i)),fun e d=>⟨(c.ok e d).1.frame h (fun a i=>g a (RM ⟨b[e],bN d,SM i⟩)),(c.ok e d).2.frame h (g _ (RM ⟨b[e],bN d,RM rfl⟩))⟩,c.apart⟩
theorem Ox.below{w w':World}{a:dj}{b:List Tw}(d:Ox w a b)(e:Below w.heap.size w w'):Ox w' a b:=d.frame (bj.of_below_all (S:=fun _=>False) e) (fun _ _ c=>c)
theorem Ox.lt{i:World}{f:dj}{h:List Tw}(c:Ox i f h):∀b,ly f h b->b<i.heap.size:=fun b a=>by
 rcases a with a|⟨j,g,a|a⟩
 .exact(c.own.lt b a).2
 .obtain⟨e,d,rfl⟩:=PN g;exact(c.ok e d).1.lt b a
 .obtain⟨e,d,rfl⟩:=PN g;rw[a];exact(c.ok e d).2.lt
theorem Ox.nil(c:World):Ox c ⟨none,0,0⟩ []:=⟨iN _ _ _ _,fun d a=>absurd a (wN _),fun e b=>(by cases b)⟩
structure xk(w0:World)(wb:Nat)(ps ds es:dj)(rs0:List Yq)(bs0:dj)(hs:List Tw)(v:dj)(n:Nat)(xs:List Value)(fl:List dj)(ll:List (List UInt8))(base:Nat)(w:World)(bs:dj)(rs:List Yq)(j:Nat):Prop where
 row:aj w wb 34 [ps.val,bs.val,ds.val,es.val]
 bk:Mz w bs rs
 be:Ox w es hs
 own:w.ownsRow base 164 2 v.val n xs
 ob:∀i (h1:i<fl.length) (h2:i<ll.length),j<=i->rj w base fl[i].val ll[i]
 len:rs.length=rs0.length+j
 old:∀k,Kj bs rs k->k<w0.heap.size->Kj bs0 rs0 k\/∃i,∃h:i<fl.length,i<j/\fl[i].val.ownBlock=some k
 fr:bj (fun k=>k=wb\/Kj bs0 rs0 k\/∃x∈fl,x.val.ownBlock=some k) w0 w
 bw:∀k,Kj bs rs k->k≠wb
structure uZ(w0:World)(wb:Nat)(bs0:dj)(rs0:List Yq)(es:dj)(hs:List Tw)(fl:List dj)(ll:List (List UInt8))(base:Nat):Prop where
 wl:wb<base
 bb:base<=w0.heap.size
 b0:∀k,Kj bs0 rs0 k->k<base/\k≠wb
 e0:∀k,ly es hs k->k<base/\k≠wb/\¬Kj bs0 rs0 k
 fo:∀i (h:i<fl.length),∀k,fl[i].val.ownBlock=some k->base<=k/\k<w0.heap.size
 pw:fl.Pairwise rK
 ln:fl.length=ll.length
 l12:∀x∈ll,x.length<=100000000000000
theorem xk.v{q B:World}{f y g b:Nat}{z r j i h A:dj}{p o:List Yq}{m:List Tw}{C:List Value}{c:List dj}{n:List (List UInt8)}(d:uZ q f i p j m c n g)(s:xk q f z r j p i m A y C c n g B h o b)(k:b<c.length):∀a,c[b].val.ownBlock=some a->a≠f/\¬Kj h o a:=fun a l=>by
 have t:=d.fo b k a l;have D:=d.wl;refine⟨by omega,fun u=>?_⟩;rcases s.old a u t.2 with e|⟨x,v,w,e⟩
 .have:=(d.b0 a e).1;omega
 .exact Vaj.1 d.pw x b v k w a e l
theorem xk.next{m E y:World}{r H s h:Nat}{D z u o t n I:dj}{q l:List Yq}{x:Yq}{B:List Tw}{J:List Value}{i:List dj}{C:List (List UInt8)}(g:uZ m r o q u B i C s)(d:xk m r D z u q o B I H J i C s E t l h)(k:h<i.length)
  (P:aj y r 34 [D.val,n.val,z.val,u.val])(L:Mz y n (l++[x]))(v:bj (fun a=>a=r\/i[h].val.ownBlock=some a\/t.val.ownBlock=some a) E y)(O:∀a,Kj n (l++[x]) a->a<E.heap.size->Kj t l a\/i[h].val.ownBlock=some a):
  xk m r D z u q o B I H J i C s y n (l++[x]) (h+1):=by
 have T:=d.fr.size;have M:∀a,t.val.ownBlock=some a->a<m.heap.size->Kj o q a\/s<=a:=fun a e p=>by
  rcases d.old a (SM e) p with c|⟨f,j,_,c⟩
  .exact SM c
  .exact RM (g.fo f j a c).1
 have G:∀a,Kj n (l++[x]) a->a<m.heap.size->Kj o q a\/∃f,∃d:f<i.length,f<h+1/\i[f].val.ownBlock=some a:=fun a e p=>by
  rcases O a e (by omega)with c|c
  .rcases d.old a c p with c|⟨f,j,N,c⟩
   .exact SM c
   .exact RM ⟨f,j,by omega,c⟩
  .exact RM ⟨h,k,by omega,c⟩
 refine⟨P,L,?_,?_,?_,by rw[XM,d.len];simp;omega,G,?_,?_⟩
 .refine d.be.frame v (fun a e b=>?_);have w:=g.e0 a e;have S:=g.bb;rcases b with b|b|b
  .exact w.2.1 b
  .have:=(g.fo h k a b).1;omega
  .rcases M a b (by omega)with c|c
   .exact w.2.2 c
   .omega
 .refine ij d.own v (fun a e b=>?_);have w:=(d.own.lt a e).1;have Q:=g.wl;rcases b with b|b|b
  .omega
  .exact ow d.own (d.ob h k (by rw[<-g.ln];exact k) (TM _)) (by decide) a e b
  .exact ow d.own d.bk.own (by decide) a e b
 .intro f F K N;have A:=d.ob f F K (by omega);refine ij A v (fun a e b=>?_);have w:=(A.lt a e).1;have Q:=g.wl;rcases b with b|b|b
  .omega
  .exact Vaj.1 g.pw h f k F (by omega) a b e
  .exact ow A d.bk.own (by decide) a e b
 .refine d.fr.inside v (fun a p b=>?_);rcases b with b|b|b
  .exact SM b
  .exact RM (RM ⟨_,bN k,b⟩)
  .rcases d.old a (SM b) p with c|⟨f,j,_,c⟩
   .exact RM (SM c)
   .exact RM (RM ⟨_,bN j,c⟩)
 .intro a e b;subst b;have R:a<m.heap.size:=by have:=g.wl;have:=g.bb;omega
  rcases G a e R with c|⟨f,j,_,c⟩
  .exact(g.b0 a c).2 rfl
  .have:=(g.fo f j a c).1;have:=g.wl;omega
end Go.Proofs.YtekegfbjbainhaaGreat
