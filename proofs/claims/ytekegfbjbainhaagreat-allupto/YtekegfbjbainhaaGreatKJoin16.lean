import Derived.Test.YtekegfbjbainhaaGreatKJoin15
import Derived.Deep.DeepCutAuto
set_option maxRecDepth 100000
set_option maxHeartbeats 1600000
set_option linter.unusedVariables false
set_option linter.unusedSimpArgs false
namespace Go.Proofs.YtekegfbjbainhaaGreat
open Go.RowKit
attribute [local go_sem↓] Go.wp_at_zero Go.wp_at_succ
theorem JZ(c m:Nat)(b:List UInt8)(s:Option Addr)(t:Nat)(a:World)(p:b.length=8)(A:c<=9223372036854775807):
  CP 135 #[.int .i64 1,.int .i64 m,dV b,.slice s c t] a fun x y=>x=.returned (.tuple #[dV (Aj (0::b)),.bool (c==0)])/\Below a.heap.size a y:=by
 have e:Below a.heap.size a ((a.alloc (.cells (b.map fj).toArray 36)).alloc (.cells z8.toArray 36)):=tO.alloc (by simp) _;have n:aj ((a.alloc (.cells (b.map fj).toArray 36)).alloc (.cells z8.toArray 36)) a.heap.size 36 (b.map fj):=(aj.new a _ _).alloc _;have f:aj ((a.alloc (.cells (b.map fj).toArray 36)).alloc (.cells z8.toArray 36)) (a.heap.size+1) 36 z8:=aj.new_at _ _ _ _ (by simp);have C:((a.alloc (.cells (b.map fj).toArray 36)).alloc (.cells z8.toArray 36)).heap.size=a.heap.size+2:=by simp
 have B:(c:Int)<=9223372036854775807:=by omega
 obtain⟨d,h⟩:∃d,d=Aj (0::b):=⟨_,rfl⟩;have o:d.length=8:=by rw[h];exact Lj _
 have l:Hd (Aj (0::b)=d):=h.symm;rw[l.o];clear h;have r:Hd (((c:Int)==0)=(c==0)):=by
  unfold Hd;rw[caj];simp
 rw[<-r.o];rw[show dV b=.agg (b.map fj).toArray from rfl];go_enter Tryz.func135,Tryz.ntmps135;go_wp2_with (refine wpList_load_mid (by rfl) 36 (.tmp 6) (by rfl) a.heap.size 0 (by rfl) (b.map fj) _ (n.range) Tryz.underlying36 (by rfl) (by simpa[p]using Tryz.infoDig) ?_);refine(DX b _ p).mono ?_;rintro m q ⟨rfl,g⟩;rw[l.o];have D:=g.size;have v:aj q (a.heap.size+1) 36 z8:=f.below f.lt g;have i:Hd (BB a q):=e.trans (g.mono e.size);clear n f e;go_wp2_with (refine iq (by rfl) (.tmp 8) (.tmp 16) (by rfl) (a.heap.size+1) (by rfl) d o (by rfl) v (by rfl) ?_;intro G u w E);exact Qy (k:=8) (j:=9) rfl rfl u o rfl rfl ⟨rfl,i.o.trans (w.below i.o.size (fun F z=>by omega))⟩
theorem tW(c h:Nat)(b:List UInt8)(f:Option Addr)(g:Nat)(a:World)(s:b.length=8)(p:c≠1)(r:c<=9223372036854775807):
  CP 135 #[.int .i64 c,.int .i64 h,dV b,.slice f 0 g] a fun m n=>m=.returned (.tuple #[dV gw,.bool false])/\Below a.heap.size a n:=by
 have d:Hd (BB a ((a.alloc (.cells (b.map fj).toArray 36)).alloc (.cells z8.toArray 36))):=tO.alloc (by simp) _;have e:aj ((a.alloc (.cells (b.map fj).toArray 36)).alloc (.cells z8.toArray 36)) (a.heap.size+1) 36 z8:=aj.new_at _ _ _ _ (by simp);have q:((c:Int)==1)=false:=by simp;omega
 rw[show dV b=.agg (b.map fj).toArray from rfl];go_enter Tryz.func135,Tryz.ntmps135;go_wp2_with (first
  |(refine wpList_load_mid (by rfl) 36 (.tmp 8) (by rfl) (a.heap.size+1) 0 (by rfl) (gw.map fj) _ (by exact e.range) Tryz.underlying36 (by rfl) (by exact Tryz.infoDig) ?_)
  |(refine iq (by rfl) (.tmp 8) (.tmp 23) (by rfl) (a.heap.size+1) (by rfl) gw rfl (by rfl) e (by rfl) ?_;intro v i l t))
 exact Qy (k:=8) (j:=9) rfl rfl i rfl rfl rfl ⟨rfl,d.o.trans (l.below d.o.size (fun u o=>by omega))⟩
theorem KZ:∀(e:List (List UInt8)) (f d:Nat) (b:List UInt8) (L:Option Addr) (o:Nat) (a:World),tq a L e.reverse->e.length<=o->o<=9223372036854775807->b.length=8->1<=f->f<=9223372036854775807->d<f->
  CP 135 #[.int .i64 f,.int .i64 d,dV b,.slice L e.length o] a fun q a9=>q=.returned (.tuple #[dV (Zq d f b e).1,.bool (Zq d f b e).2])/\Below a.heap.size a a9
 |[],f,d,b,L,o,a,ag,af,aP,U,ak,a0,ap=>by
  unfold Zq;by_cases Y:f=1
  .subst Y;exact JZ 0 d b L o a U (by omega)
  .rw[if_neg Y];exact tW f d b L o a U Y a0
 |l::e,f,d,b,L,o,a,ag,af,aP,U,ak,a0,ap=>by
  unfold Zq;by_cases Y:f=1
  .subst Y;exact JZ (e.length+1) d b L o a U (by simp at af;omega)
  rw[if_neg Y];obtain⟨g,i,rfl,ao⟩:∃g i,L=some ⟨g,i,none⟩/\g<a.heap.size:=by
   have ai:=ag;have bm:(l::e).reverse≠[]:=by simp
   revert ai;generalize (l::e).reverse=b1 at*;cases b1 with
   |nil=>exact absurd rfl bm
   |cons c2 b1=>exact fun ai=>ai.addr
  obtain⟨ax,aS,aT⟩:=ag.last;have bi:=Rq f (by omega);have aI:Hd (∀a:World,CP 128 #[.int .i64 f] a fun d a9=>d=.returned (.int .i64 (gj f:Int))/\a9=a):=fun a=>Py f a (by omega) a0;have W:Hd (∀(n:World) (M X:Nat),BB a n->1<=M->M<=9223372036854775807->X<M->CP 135 #[.int .i64 (M:Int),.int .i64 (X:Int),dV b,.slice (some ⟨g,i,none⟩) e.length o] n fun q a9=>q=.returned (.tuple #[dV (Zq X M b e).1,.bool (Zq X M b e).2])/\Below n.heap.size n a9):=fun n M X a4 ak a0 ap=>
   KZ e M X b (some ⟨g,i,none⟩) o n (aS.below a4) (by simp at af;omega) aP U ak a0 ap
  have x:Below a.heap.size a ((a.alloc (.cells (b.map fj).toArray 36)).alloc (.cells z8.toArray 36)):=tO.alloc (by simp) _;have ad:aj ((a.alloc (.cells (b.map fj).toArray 36)).alloc (.cells z8.toArray 36)) a.heap.size 36 (b.map fj):=(aj.new a _ _).alloc _;have ae:aj ((a.alloc (.cells (b.map fj).toArray 36)).alloc (.cells z8.toArray 36)) (a.heap.size+1) 36 z8:=aj.new_at _ _ _ _ (by simp);have u:((a.alloc (.cells (b.map fj).toArray 36)).alloc (.cells z8.toArray 36)).rangeAt g (i+e.length*8) (l.map fj):=fun a8 q aB=>by
   rw[x.cell (p:=⟨g,i+e.length*8+a8,none⟩) ao];exact ax a8 q aB
  have al:=x.alloc x.size (.cells z8.toArray 36);have v:(((a.alloc (.cells (b.map fj).toArray 36)).alloc (.cells z8.toArray 36)).alloc (.cells z8.toArray 36)).rangeAt g (i+e.length*8) (l.map fj):=fun a8 q aB=>by
   rw[al.cell (p:=⟨g,i+e.length*8+a8,none⟩) ao];exact ax a8 q aB
  have b0:((a.alloc (.cells (b.map fj).toArray 36)).alloc (.cells z8.toArray 36)).heap.size=a.heap.size+1+1:=by simp
  generalize gj f=c at*;obtain⟨bk,bA⟩:=bi;have aR:(l::e).length=e.length+1:=rfl;rw[aR]at af⊢;generalize e.length=h at*;have bI:((h+1:Nat):Int) - 1=(h:Int):=by omega
  have bE:(((h+1:Nat):Int)==0)=false:=by simp;omega
  have bO:(h:Int)<o:=by omega
  have bu:(o:Int)<=9223372036854775807:=by omega
  have bP:((h+1:Nat):Int)=(h:Int)+1:=by omega
  have bR:((f:Int)==1)=false:=by simp;omega
  have bB:(1:Int)<=c:=by omega
  have bC:(c:Int)<f:=by omega
  have bS:(f:Int)<=9223372036854775807:=by omega
  obtain⟨D,E,F,G,H,I,J,K,m⟩:=uj l aT;have aO:Hd (l=[D,E,F,G,H,I,J,K]):=m;have b2:((a.alloc (.cells (b.map fj).toArray 36)).alloc (.cells zO 36)).cell? ⟨g,i+h*8,none⟩=some (.int .u8 D.toNat):=u 0 (.int .u8 D.toNat) (by rw[m];rfl);have b3:((a.alloc (.cells (b.map fj).toArray 36)).alloc (.cells zO 36)).cell? ⟨g,i+h*8+1,none⟩=some (.int .u8 E.toNat):=u 1 (.int .u8 E.toNat) (by rw[m];rfl);have b4:((a.alloc (.cells (b.map fj).toArray 36)).alloc (.cells zO 36)).cell? ⟨g,i+h*8+2,none⟩=some (.int .u8 F.toNat):=u 2 (.int .u8 F.toNat) (by rw[m];rfl);have b5:((a.alloc (.cells (b.map fj).toArray 36)).alloc (.cells zO 36)).cell? ⟨g,i+h*8+3,none⟩=some (.int .u8 G.toNat):=u 3 (.int .u8 G.toNat) (by rw[m];rfl);have b6:((a.alloc (.cells (b.map fj).toArray 36)).alloc (.cells zO 36)).cell? ⟨g,i+h*8+4,none⟩=some (.int .u8 H.toNat):=u 4 (.int .u8 H.toNat) (by rw[m];rfl);have b7:((a.alloc (.cells (b.map fj).toArray 36)).alloc (.cells zO 36)).cell? ⟨g,i+h*8+5,none⟩=some (.int .u8 I.toNat):=u 5 (.int .u8 I.toNat) (by rw[m];rfl);have b8:((a.alloc (.cells (b.map fj).toArray 36)).alloc (.cells zO 36)).cell? ⟨g,i+h*8+6,none⟩=some (.int .u8 J.toNat):=u 6 (.int .u8 J.toNat) (by rw[m];rfl);have b9:((a.alloc (.cells (b.map fj).toArray 36)).alloc (.cells zO 36)).cell? ⟨g,i+h*8+7,none⟩=some (.int .u8 K.toNat):=u 7 (.int .u8 K.toNat) (by rw[m];rfl);have ba:(((a.alloc (.cells (b.map fj).toArray 36)).alloc (.cells zO 36)).alloc (.cells zO 36)).cell? ⟨g,i+h*8,none⟩=some (.int .u8 D.toNat):=v 0 (.int .u8 D.toNat) (by rw[m];rfl);have bb:(((a.alloc (.cells (b.map fj).toArray 36)).alloc (.cells zO 36)).alloc (.cells zO 36)).cell? ⟨g,i+h*8+1,none⟩=some (.int .u8 E.toNat):=v 1 (.int .u8 E.toNat) (by rw[m];rfl);have bc:(((a.alloc (.cells (b.map fj).toArray 36)).alloc (.cells zO 36)).alloc (.cells zO 36)).cell? ⟨g,i+h*8+2,none⟩=some (.int .u8 F.toNat):=v 2 (.int .u8 F.toNat) (by rw[m];rfl);have bd:(((a.alloc (.cells (b.map fj).toArray 36)).alloc (.cells zO 36)).alloc (.cells zO 36)).cell? ⟨g,i+h*8+3,none⟩=some (.int .u8 G.toNat):=v 3 (.int .u8 G.toNat) (by rw[m];rfl)
  have be:(((a.alloc (.cells (b.map fj).toArray 36)).alloc (.cells zO 36)).alloc (.cells zO 36)).cell? ⟨g,i+h*8+4,none⟩=some (.int .u8 H.toNat):=v 4 (.int .u8 H.toNat) (by rw[m];rfl);have bf:(((a.alloc (.cells (b.map fj).toArray 36)).alloc (.cells zO 36)).alloc (.cells zO 36)).cell? ⟨g,i+h*8+5,none⟩=some (.int .u8 I.toNat):=v 5 (.int .u8 I.toNat) (by rw[m];rfl);have bg:(((a.alloc (.cells (b.map fj).toArray 36)).alloc (.cells zO 36)).alloc (.cells zO 36)).cell? ⟨g,i+h*8+6,none⟩=some (.int .u8 J.toNat):=v 6 (.int .u8 J.toNat) (by rw[m];rfl);have bh:(((a.alloc (.cells (b.map fj).toArray 36)).alloc (.cells zO 36)).alloc (.cells zO 36)).cell? ⟨g,i+h*8+7,none⟩=some (.int .u8 K.toNat):=v 7 (.int .u8 K.toNat) (by rw[m];rfl);clear ax aS ag aR m;have ac:Hd (l.length=8):=aT;have br:Hd (g<a.heap.size):=ao;have bD:¬o=h:=by omega
  have c0:IntKind.i64.wrap (h:Int)=(h:Int):=Go.IntWalk.i64_in _ ⟨by omega,by omega⟩;by_cases aA:d<c
  .rw[if_pos aA];obtain⟨s,S⟩:∃s,s=Aj (1::((Zq d c b e).1++l)):=⟨_,rfl⟩;have a7:s.length=8:=by rw[S];exact Lj _
   have Z:Hd (Aj (1::((Zq d c b e).1++l))=s):=S.symm;have w:Hd ((Zq d c b e).1.length=8):=xy e d c b;rw[Z.o];clear S;have bl:(d:Int)<c:=by omega
   rw[show dV b=.agg (b.map fj).toArray from rfl]at W⊢;have ah:Hd (∀(n:World),BB a n->Calls _ _ _ n _):=fun n a4=>W.o n c d a4 bk (by omega) aA;generalize Zq d c b e=B at*;clear W;go_enter Tryz.func135,Tryz.ntmps135;go_wp2
   go_cut [10,11] (fun aE aD C=>aE=.slice (some ⟨g,i,none⟩) h o/\aD=.pointer (some ⟨a.heap.size+1+1,0,none⟩)/\Hd (BB a C/\aj C a.heap.size 36 (b.map fj)/\aj C (a.heap.size+1) 36 z8/\aj C (a.heap.size+1+1) 36 (l.map fj)))
   case first=>
    go_region
    all_goals
     go_wp2;go_meet;refine⟨rfl,rfl,?_,?_,?_,?_⟩
     .have t:=x.alloc x.size (.cells (cO D E F G H I J K) 36);exact⟨t.os,t.tape,t.output,t.size,t.block⟩
     .exact(ad.alloc _).of_block rfl
     .exact(ae.alloc _).of_block rfl
     .rw[aO.o];exact(aj.new_at _ 36 (a.heap.size+1+1) ([D,E,F,G,H,I,J,K].map fj) (by simp)).of_block rfl
   case rest=>
    obtain⟨rfl,rfl,r⟩:=hcut;have a1:=r.o.2.1;have Q:=r.o.2.2.1;have O:=r.o.2.2.2;have y:=r.o.1;clear u v ad ae x al b0 b2 b3 b4 b5 b6 b7 b8 b9 ba bb bc bd be bf bg bh;go_wp2_with fail;refine(aI.o _).mono ?_;rintro q bo ⟨rfl,rfl⟩;go_wp2_with (refine wpList_load_mid (by rfl) 36 (.tmp 6) (by rfl) a.heap.size 0 (by rfl) (b.map fj) _ (by exact a1.range) Tryz.underlying36 (by rfl) (by simpa[U]using Tryz.infoDig) ?_);refine(ah.o _ y).mono ?_;rintro q V ⟨rfl,A⟩;have a2:Below a.heap.size a V:=y.trans (A.mono y.size);have a6:aj V (a.heap.size+1) 36 z8:=Q.below Q.lt A;have P:aj V (a.heap.size+1+1) 36 (l.map fj):=O.below O.lt A;have av:=P.lt;clear a1 Q O y A r;go_wp2_with (first
     |(refine iq (by rfl) (.tmp 8) (.tmp 46) (by rfl) (a.heap.size+1) (by rfl) B.1 w.o (by rfl) a6 (by rfl) ?_;intro aa z T aC;have N:Below a.heap.size a aa:=maj a2 (T.below (by omega) (fun c au=>by omega));have a5:aj aa (a.heap.size+1+1) 36 (l.map fj):=P.of_block (T.block _ av (fun d=>by omega)))
     |(refine wpList_load_mid (by rfl) 36 (.tmp 8) (by rfl) (a.heap.size+1) 0 (by rfl) (B.1.map fj) _ (by exact z.range) Tryz.underlying36 (by rfl) (by simpa[w.o]using Tryz.infoDig) ?_)
     |(refine wpList_load_mid (by rfl) 36 (.tmp 11) (by rfl) (a.heap.size+1+1) 0 (by rfl) (l.map fj) _ (by exact a5.range) Tryz.underlying36 (by rfl) (by simpa[ac.o]using Tryz.infoDig) ?_))
    refine(Uy B.1 l _ w.o ac.o).mono ?_;rintro q ab ⟨rfl,R⟩;rw[Z.o];have a3:Below a.heap.size a ab:=N.trans (R.mono N.size);have an:aj ab (a.heap.size+1) 36 (B.1.map fj):=z.below z.lt R;clear T aC z a5 N R P a6 a2;go_wp2_with (refine iq (by rfl) (.tmp 8) (.tmp 50) (by rfl) (a.heap.size+1) (by rfl) s a7 (by rfl) an (by simp[w.o]) ?_;intro bp am ar bn);exact Qy (k:=8) (j:=9) rfl rfl am a7 rfl rfl ⟨rfl,a3.trans (ar.below a3.size (fun c au=>by omega))⟩
  .rw[if_neg aA];obtain⟨s,S⟩:∃s,s=Aj (1::(l++(Zq (d - c) (f - c) b e).1)):=⟨_,rfl⟩;have a7:s.length=8:=by rw[S];exact Lj _
   have Z:Hd (Aj (1::(l++(Zq (d - c) (f - c) b e).1))=s):=S.symm;have w:Hd ((Zq (d - c) (f - c) b e).1.length=8):=xy e (d - c) (f - c) b;rw[Z.o];clear S;have bl:¬(d:Int)<c:=by omega
   have bw:(d:Int) - c=((d - c:Nat):Int):=by omega
   have bT:(f:Int) - c=((f - c:Nat):Int):=by omega
   have bv:(d:Int)<f:=by omega
   rw[show dV b=.agg (b.map fj).toArray from rfl]at W⊢;have ah:Hd (∀(n:World),BB a n->Calls _ _ _ n _):=fun n a4=>W.o n (f - c) (d - c) a4 (by omega) (by omega) (by omega);generalize Zq (d - c) (f - c) b e=B at*;generalize ((f - c:Nat))=c1 at*;generalize ((d - c:Nat))=bs at*;clear W;go_enter Tryz.func135,Tryz.ntmps135;go_wp2
   go_cut [10,11] (fun aE aD C=>aE=.slice (some ⟨g,i,none⟩) h o/\aD=.pointer (some ⟨a.heap.size+1+1,0,none⟩)/\Hd (BB a C/\aj C a.heap.size 36 (b.map fj)/\aj C (a.heap.size+1) 36 z8/\aj C (a.heap.size+1+1) 36 (l.map fj)))
   case first=>
    go_region
    all_goals
     go_wp2;go_meet;refine⟨rfl,rfl,?_,?_,?_,?_⟩
     .have t:=x.alloc x.size (.cells (cO D E F G H I J K) 36);exact⟨t.os,t.tape,t.output,t.size,t.block⟩
     .exact(ad.alloc _).of_block rfl
     .exact(ae.alloc _).of_block rfl
     .rw[aO.o];exact(aj.new_at _ 36 (a.heap.size+1+1) ([D,E,F,G,H,I,J,K].map fj) (by simp)).of_block rfl
   case rest=>
    obtain⟨rfl,rfl,r⟩:=hcut;have a1:=r.o.2.1;have Q:=r.o.2.2.1;have O:=r.o.2.2.2;have y:=r.o.1;clear u v ad ae x al b0 b2 b3 b4 b5 b6 b7 b8 b9 ba bb bc bd be bf bg bh;go_wp2_with fail;refine(aI.o _).mono ?_;rintro q bo ⟨rfl,rfl⟩;go_wp2_with (refine wpList_load_mid (by rfl) 36 (.tmp 6) (by rfl) a.heap.size 0 (by rfl) (b.map fj) _ (by exact a1.range) Tryz.underlying36 (by rfl) (by simpa[U]using Tryz.infoDig) ?_);refine(ah.o _ y).mono ?_;rintro q V ⟨rfl,A⟩;have a2:Below a.heap.size a V:=y.trans (A.mono y.size);have a6:aj V (a.heap.size+1) 36 z8:=Q.below Q.lt A;have P:aj V (a.heap.size+1+1) 36 (l.map fj):=O.below O.lt A;have av:=P.lt;clear a1 Q O y A r;go_wp2_with (first
     |(refine iq (by rfl) (.tmp 8) (.tmp 62) (by rfl) (a.heap.size+1) (by rfl) B.1 w.o (by rfl) a6 (by rfl) ?_;intro aa z T aC;have N:Below a.heap.size a aa:=maj a2 (T.below (by omega) (fun c au=>by omega));have a5:aj aa (a.heap.size+1+1) 36 (l.map fj):=P.of_block (T.block _ av (fun d=>by omega)))
     |(refine wpList_load_mid (by rfl) 36 (.tmp 8) (by rfl) (a.heap.size+1) 0 (by rfl) (B.1.map fj) _ (by exact z.range) Tryz.underlying36 (by rfl) (by simpa[w.o]using Tryz.infoDig) ?_)
     |(refine wpList_load_mid (by rfl) 36 (.tmp 11) (by rfl) (a.heap.size+1+1) 0 (by rfl) (l.map fj) _ (by exact a5.range) Tryz.underlying36 (by rfl) (by simpa[ac.o]using Tryz.infoDig) ?_))
    refine(Uy l B.1 _ ac.o w.o).mono ?_;rintro q ab ⟨rfl,R⟩;rw[Z.o];have a3:Below a.heap.size a ab:=N.trans (R.mono N.size);have an:aj ab (a.heap.size+1) 36 (B.1.map fj):=z.below z.lt R;clear T aC z a5 N R P a6 a2;go_wp2_with (refine iq (by rfl) (.tmp 8) (.tmp 66) (by rfl) (a.heap.size+1) (by rfl) s a7 (by rfl) an (by simp[w.o]) ?_;intro bp am ar bn);exact Qy (k:=8) (j:=9) rfl rfl am a7 rfl rfl ⟨rfl,a3.trans (ar.below a3.size (fun c au=>by omega))⟩
def Xy:Nat->Nat->Bool->List UInt8->List (List UInt8)->Option (List UInt8×List UInt8)
 |b,a,f,d,[]=>if b=a/\f=true then some (d,d)else none
 |b,a,f,d,e::g=>if b=a/\f=true then none else if b=a then(if g.length=0 then some (e,e)else none)else
  if b<=gj a then(Xy b (gj a) f d g).map (fun c=>(c.1,Aj (1::(c.2++e))))
  else(Xy (b - gj a) (a - gj a) false d g).map (fun c=>(Aj (1::(e++c.1)),Aj (1::(e++c.2))))
def Gw(c:Option (List UInt8×List UInt8))(e:Ending):Prop:=∃a b:List UInt8,a.length=8/\b.length=8/\e=.returned (.tuple #[dV a,dV b,.bool c.isSome])/\∀d,c=some d->d=(a,b)
theorem Rv{h:Func}{g:Ending->World->Prop}{a:Act}{b:World}{k k' j c e:Nat}{d d':List UInt8}{f:Value}(u:h.results=#[ResultVar.cell k 36,ResultVar.cell k' 36,ResultVar.tmp j])(n:a.tmps.getD k undef=.pointer (some ⟨c,0,none⟩))(p:a.tmps.getD k' undef=.pointer (some ⟨e,0,none⟩))
  (l:aj b c 36 (d.map fj))(r:d.length=8)(m:aj b e 36 (d'.map fj))(s:d'.length=8)(w:a.tmps.getD j undef=f)(t:a.defers=[])(i:g (.returned (.tuple #[dV d,dV d',f])) b):bodyPost Tryz.prog h g .ret a b:=by
 refine bodyPost_ret (v:=.tuple #[dV d,dV d',f]) ?_ t i;have y:=run_loadVar_mid (P:=Tryz.prog) b c 0 36 (d.map fj) _ l.range Tryz.underlying36 rfl (by simpa[r]using Tryz.infoDig);have z:=run_loadVar_mid (P:=Tryz.prog) b e 0 36 (d'.map fj) _ m.range Tryz.underlying36 rfl (by simpa[s]using Tryz.infoDig);have o:a.tmps[k]?.getD undef=.pointer (some ⟨c,0,none⟩):=by rw[<-n];simp[WN]
 have q:a.tmps[k']?.getD undef=.pointer (some ⟨e,0,none⟩):=by rw[<-p];simp[WN]
 have x:a.tmps[j]?.getD undef=f:=by rw[<-w];simp[WN]
 unfold results;rw[u];simp[o,q,y,z,x,dV,asAddr]
theorem WY(c o:Nat)(a:List UInt8)(p:Option Addr)(q:Nat)(b:World)(r:a.length=8)(u:c<=9223372036854775807):
  CP 114 #[.int .i64 o,.int .i64 o,.bool true,dV a,.slice p c q] b fun s t=>s=.returned (.tuple #[dV a,dV a,.bool ((c:Int)==0)])/\Below b.heap.size b t:=by
 obtain⟨e,f,g,h,i,l,m,n,rfl⟩:=uj a r;have v:(c:Int)<=9223372036854775807:=by omega
 unfold dV fj;simp only[ZM,dN];go_enter Tryz.func114,Tryz.ntmps114;go_wp2
 go_region
 all_goals
  go_wp2;refine Rv (k:=10) (k':=11) (j:=12) (d:=[e,f,g,h,i,l,m,n]) (d':=[e,f,g,h,i,l,m,n]) rfl rfl rfl ?_ rfl ?_ rfl rfl rfl ⟨rfl,?_⟩
  .exact((aj.new_at _ 36 (b.heap.size+1) ([e,f,g,h,i,l,m,n].map fj) (by simp)).alloc _).of_block rfl
  .exact(aj.new_at _ 36 (b.heap.size+1+1) ([e,f,g,h,i,l,m,n].map fj) (by simp)).of_block rfl
  .exact(((tO.alloc (by simp) _).alloc (by simp;omega) _)).drew
theorem fL(o n:Nat)(p:Bool)(m:List UInt8)(r:Option Addr)(s:Nat)(l:World)(v:m.length=8)(q:¬(n=o/\p=true)):
  CP 114 #[.int .i64 n,.int .i64 o,.bool p,dV m,.slice r 0 s] l fun w x=>w=.returned (.tuple #[dV m,dV m,.bool false])/\Below l.heap.size l x:=by
 obtain⟨a,b,c,e,f,g,h,i,rfl⟩:=uj m v;unfold dV fj;simp only[ZM,dN];by_cases t:n=o
 .subst t;have u:p=false:=by cases p;rfl;exact absurd ⟨rfl,rfl⟩ q
  subst u;clear q;go_enter Tryz.func114,Tryz.ntmps114;go_wp2
  go_region
  all_goals
   go_wp2;refine Rv (k:=10) (k':=11) (j:=12) (d:=[a,b,c,e,f,g,h,i]) (d':=[a,b,c,e,f,g,h,i]) rfl rfl rfl ?_ rfl ?_ rfl rfl rfl ⟨rfl,?_⟩
   .exact((aj.new_at _ 36 (l.heap.size+1) ([a,b,c,e,f,g,h,i].map fj) (by simp)).alloc _).of_block rfl
   .exact(aj.new_at _ 36 (l.heap.size+1+1) ([a,b,c,e,f,g,h,i].map fj) (by simp)).of_block rfl
   .exact(((tO.alloc (by simp) _).alloc (by simp;omega) _)).drew
 .have y:((n:Int)==(o:Int))=false:=by rw[tN];simp only[ne_eq,beq_iff_eq];omega
  clear q;go_enter Tryz.func114,Tryz.ntmps114;go_wp2
  go_region
  all_goals
   go_wp2;refine Rv (k:=10) (k':=11) (j:=12) (d:=[a,b,c,e,f,g,h,i]) (d':=[a,b,c,e,f,g,h,i]) rfl rfl rfl ?_ rfl ?_ rfl rfl rfl ⟨rfl,?_⟩
   .exact((aj.new_at _ 36 (l.heap.size+1) ([a,b,c,e,f,g,h,i].map fj) (by simp)).alloc _).of_block rfl
   .exact(aj.new_at _ 36 (l.heap.size+1+1) ([a,b,c,e,f,g,h,i].map fj) (by simp)).of_block rfl
   .exact(((tO.alloc (by simp) _).alloc (by simp;omega) _)).drew
theorem cM(a E b c:Nat)(D u:List UInt8)(t:Nat)(e:World)(F:D.length=8)(G:u.length=8)(s:b<e.heap.size)(L:a+1<=t)(J:t<=9223372036854775807)(f:e.rangeAt b (c+a*8) (u.map fj)):
  CP 114 #[.int .i64 E,.int .i64 E,.bool false,dV D,.slice (some ⟨b,c,none⟩) (a+1) t] e fun H I=>H=.returned (.tuple #[dV u,dV u,.bool ((a:Int)==0)])/\Below e.heap.size e I:=by
 obtain⟨g,h,i,l,m,n,o,q,rfl⟩:=uj D F;obtain⟨v,w,x,y,z,A,B,C,rfl⟩:=uj u G;have r:Below e.heap.size e (((e.alloc (.cells (cO g h i l m n o q) 36)).alloc (.cells zO 36)).alloc (.cells zO 36)):=((tO.alloc (by simp) _).alloc (by simp;omega) _);have R:(((e.alloc (.cells (cO g h i l m n o q) 36)).alloc (.cells zO 36)).alloc (.cells zO 36)).cell? ⟨b,c+a*8,none⟩=some (.int .u8 v.toNat):=by rw[r.cell (p:=⟨b,c+a*8,none⟩) s];exact f 0 _ rfl
 have S:(((e.alloc (.cells (cO g h i l m n o q) 36)).alloc (.cells zO 36)).alloc (.cells zO 36)).cell? ⟨b,c+a*8+1,none⟩=some (.int .u8 w.toNat):=by rw[r.cell (p:=⟨b,c+a*8+1,none⟩) s];exact f 1 _ rfl
 have T:(((e.alloc (.cells (cO g h i l m n o q) 36)).alloc (.cells zO 36)).alloc (.cells zO 36)).cell? ⟨b,c+a*8+2,none⟩=some (.int .u8 x.toNat):=by rw[r.cell (p:=⟨b,c+a*8+2,none⟩) s];exact f 2 _ rfl
 have U:(((e.alloc (.cells (cO g h i l m n o q) 36)).alloc (.cells zO 36)).alloc (.cells zO 36)).cell? ⟨b,c+a*8+3,none⟩=some (.int .u8 y.toNat):=by rw[r.cell (p:=⟨b,c+a*8+3,none⟩) s];exact f 3 _ rfl
 have V:(((e.alloc (.cells (cO g h i l m n o q) 36)).alloc (.cells zO 36)).alloc (.cells zO 36)).cell? ⟨b,c+a*8+4,none⟩=some (.int .u8 z.toNat):=by rw[r.cell (p:=⟨b,c+a*8+4,none⟩) s];exact f 4 _ rfl
 have W:(((e.alloc (.cells (cO g h i l m n o q) 36)).alloc (.cells zO 36)).alloc (.cells zO 36)).cell? ⟨b,c+a*8+5,none⟩=some (.int .u8 A.toNat):=by rw[r.cell (p:=⟨b,c+a*8+5,none⟩) s];exact f 5 _ rfl
 have X:(((e.alloc (.cells (cO g h i l m n o q) 36)).alloc (.cells zO 36)).alloc (.cells zO 36)).cell? ⟨b,c+a*8+6,none⟩=some (.int .u8 B.toNat):=by rw[r.cell (p:=⟨b,c+a*8+6,none⟩) s];exact f 6 _ rfl
 have Y:(((e.alloc (.cells (cO g h i l m n o q) 36)).alloc (.cells zO 36)).alloc (.cells zO 36)).cell? ⟨b,c+a*8+7,none⟩=some (.int .u8 C.toNat):=by rw[r.cell (p:=⟨b,c+a*8+7,none⟩) s];exact f 7 _ rfl
 have P:((a+1:Nat):Int) - 1=(a:Int):=by omega
 have N:(((a+1:Nat):Int)==0)=false:=by rw[tN];simp only[ne_eq,beq_iff_eq];omega
 have Q:((a+1:Nat):Int)=(a:Int)+1:=by omega
 have O:((a:Int)+1==1)=((a:Int)==0):=by rw[caj];simp only[beq_iff_eq];omega
 have K:(t:Int)<=9223372036854775807:=by omega
 have M:(a:Int)<t:=by omega
 clear f;unfold dV fj;simp only[ZM,dN];go_enter Tryz.func114,Tryz.ntmps114;go_wp2
 go_region
 all_goals
  go_wp2;refine Rv (k:=10) (k':=11) (j:=12) (d:=[v,w,x,y,z,A,B,C]) (d':=[v,w,x,y,z,A,B,C]) rfl rfl rfl ?_ rfl ?_ rfl rfl rfl ⟨rfl,?_⟩
  .exact(((aj.new_at _ 36 (e.heap.size+1) ([v,w,x,y,z,A,B,C].map fj) (by simp)).alloc _).alloc _).of_block rfl
  .exact((aj.new_at _ 36 (e.heap.size+1+1) ([v,w,x,y,z,A,B,C].map fj) (by simp)).alloc _).of_block rfl
  .exact((((tO.alloc (by simp) _).alloc (by simp;omega) _)).alloc (by simp;omega) _).drew
end Go.Proofs.YtekegfbjbainhaaGreat
