import Derived.Test.YtekegfbjbainhaaGreatKJoin6
import Derived.Maps.Keyed
import Derived.DeepKeys4
import Derived.LaidEqlPtr
import Derived.Lib.Builder
import Derived.MapKept
import Derived.Deep.RegionWith
set_option maxRecDepth 100000
set_option maxHeartbeats 4000000
set_option linter.unusedVariables false
set_option linter.unusedSimpArgs false
namespace Go.Proofs.YtekegfbjbainhaaGreat
open Go.RowKit
theorem Tryz.laidOutP:laidOutB Tryz.prog=true:=by kernel_rfl
theorem Tryz.rowDig:(36:TypeId)<Tryz.prog.types.size:=of_decide_eq_true (by kernel_rfl)
theorem Tryz.wideDig:(match Tryz.prog.underlying 36 with|some (.array _ _)|some (.struct _)=>true|_=>false)=true:=by rw[Tryz.underlying36]
theorem Tryz.digLaw:Maps.Keyed Tryz.prog 36:=Maps.Keyed.of_law (deep_law_laid Tryz.laidOutP (m:=2) (by omega) Tryz.rowDig (by kernel_rfl) Tryz.wideDig)
theorem Tryz.undDig:Tryz.prog.underlying 36=some (.array 8 5):=Tryz.underlying36
theorem Tryz.cellsDig:Tryz.prog.cellsOf 36=8:=by kernel_rfl
theorem Tryz.cellsU8:Tryz.prog.cellsOf 5=1:=by kernel_rfl
theorem Tryz.keyDig:Tryz.prog.keyType 36=true:=by kernel_rfl
theorem DU(c:Nat)(a:UInt8):Tryz.prog.keyLits (c+1) 5 [fj a]=some [.int .u8 a.toNat]:=by
 have d:=a.toNat_lt;unfold Program.keyLits fj;simp only[Tryz.underlying5];have b:(Lit.int .u8 a.toNat).wf=true:=WalkArith.wf_u8 ⟨by omega,by omega⟩;simp[b]
theorem vJ(i:List UInt8)(m:i.length=8):∃p,keyOf Tryz.prog 36 (dV i)=some p:=by
 obtain⟨a,b,c,d,e,f,g,h,rfl⟩:=uj i m;obtain⟨j,o⟩:∃j,Tryz.prog.types.size+1=j+1+1:=⟨Tryz.prog.types.size - 1,by have q:36<Tryz.prog.types.size:=Tryz.rowDig;omega⟩;have k:Tryz.prog.keyLits (j+1+1) 36 ((([a,b,c,d,e,f,g,h].map fj).toArray).toList)=some [.int .u8 a.toNat,.int .u8 b.toNat,.int .u8 c.toNat,.int .u8 d.toNat,.int .u8 e.toNat,.int .u8 f.toNat,.int .u8 g.toNat,.int .u8 h.toNat]:=by
  unfold Program.keyLits;simp only[Tryz.undDig,Tryz.cellsDig,Tryz.cellsU8];simp[List.range,List.range.loop,DU]
 unfold keyOf;rw[Tryz.undDig];have n:(dV [a,b,c,d,e,f,g,h]).formed Tryz.prog 36=true:=by
  simp[dV,Value.formed,Tryz.undDig,Tryz.cellsDig]
 simp only[Tryz.keyDig,n,Bool.and_self,if_true,o];have l:(dV [a,b,c,d,e,f,g,h]).cells.toList=((([a,b,c,d,e,f,g,h].map fj).toArray).toList):=rfl;rw[l,k];exact⟨_,rfl⟩
structure Nd where
 b:Nat
 la:dj
 by_:dj
 be:dj
 level:Nat
 its:List ej
 bl:List Nat
def Cj(a:Nat):Value:=.pointer (some ⟨a,0,none⟩)
def CZ(a:Nd):List Value:=[a.la.val,a.by_.val]++(Aj (Gj a.level a.its)).map fj++[a.be.val]
structure IL(level:Nat)(its:List ej):Prop where
 ok:∀x∈its,Dq x
 more8:level≠0->∀x∈its,x.more.length=8
 norm:∀x∈its,x.below=0
 len:its.length<=200
 lv:level<=6
structure uq(w:World)(x:Nd):Prop where
 row:aj w x.b 142 (CZ x)
 la:BS w x.la (cz x.its)
 by_:BS w x.by_ (Gj x.level x.its)
 be:jj w x.be.a (x.bl.map Cj)
 ben:x.be.n=x.bl.length
 belt:∀y,x.be.a=some y->y.block<w.heap.size
 pg:IL x.level x.its
 blrow:∀b∈x.bl,∃cs,aj w b 142 cs
 blc:x.bl.length<=1000
def Sq(c:Nd)(b:Nat):Prop:=b=c.b\/(∃a,c.la.a=some a/\a.block=b)\/(∃a,c.by_.a=some a/\a.block=b)\/(∃a,c.be.a=some a/\a.block=b)\/b∈c.bl
theorem uq.frame{j k:World}{S:Nat->Prop}{f:Nd}(a:uq j f)(d:bj S j k)(e:∀i,Sq f i->¬S i):uq k f:=
 ⟨a.row.of_block (d.block _ a.row.lt (e _ (SM rfl))),a.la.frame d (fun c b=>e _ (RM (SM ⟨c,b,rfl⟩))),a.by_.frame d (fun c b=>e _ (RM (RM (SM ⟨c,b,rfl⟩)))),
  a.be.frame d (fun c b=>e _ (RM (RM (RM (SM ⟨c,b,rfl⟩))))),a.ben,fun c b=>qN (a.belt c b) d.size,a.pg,fun l g=>by
   obtain⟨m,h⟩:=a.blrow l g;exact⟨m,h.of_block (d.block _ h.lt (e _ (RM (RM (RM (RM g))))))⟩,a.blc⟩
theorem uq.below{w w':World}{a:Nd}(c:uq w a)(d:Below w.heap.size w w'):uq w' a:=c.frame (bj.of_below_all (S:=fun _=>False) d) (fun _ _ b=>b)
theorem uq.lt{e:World}{f:Nd}(a:uq e f):∀d,Sq f d->d<e.heap.size:=fun d h=>by
 rcases h with rfl|⟨c,b,rfl⟩|⟨c,b,rfl⟩|⟨c,b,rfl⟩|g
 .exact a.row.lt
 .exact a.la.lt c b
 .exact a.by_.lt c b
 .exact a.belt c b
 .obtain⟨j,i⟩:=a.blrow d g;exact i.lt
structure Tj where
 d:List UInt8
 s:dj
 ns:List Nd
def Bj(e:Nat)(d:Option Nat)(c:List Tj)(a:Nat):Prop:=a=e\/d=some a\/∃b∈c,b.s.val.ownBlock=some a
def IX(g:World)(f:Option Nat)(d:List Tj):Prop:=
 match f with
 |none=>d=[]
 |some e=>∃(b:Array MapEntry) (c:Nat),g.heap[e]? =some (.map b c)/\b.toList.map (fun a=>(a.key,a.val))=d.map (fun a=>(dV a.d,a.s.val))/\(b.toList.map (·.born)).Nodup/\(∀a∈b.toList,a.born<c)
structure Oj(w:World)(sb:Nat)(mp:Option Nat)(es:List Tj)(N:Nat):Prop where
 map:IX w mp es
 d8:∀e∈es,e.d.length=8
 own:∀e∈es,w.ownsRow 0 138 1 e.s.val e.ns.length (e.ns.map (fun x=>Cj x.b))
 nodes:∀e∈es,∀x∈e.ns,uq w x
 apart:∀(i j:Nat) (e f:Tj),i≠j->es[i]? =some e->es[j]? =some f->∀k,e.s.val.ownBlock=some k->f.s.val.ownBlock≠some k
 foot:∀e∈es,∀x∈e.ns,∀k,Sq x k->¬Bj sb mp es k
 msb:∀e∈es,∀k,e.s.val.ownBlock=some k->k≠sb/\mp≠some k
 cnt:∀e∈es,e.ns.length<=N
 kd:(es.map (·.d)).Nodup
theorem xV(b c:dj)(f g:List UInt8)(a:World)(d:BS a b f)(e:BS a c g):
  CP 151 #[b.val,c.val] a fun h i=>h=.returned (.bool (f==g))/\i=a:=by
 have j:=wj (P:=Tryz.prog) a 38 9 5 b.a b.n b.cap f Tryz.underlying38 Tryz.underlying5 Tryz.underlying9 d.n d.sl d.nil;have k:=wj (P:=Tryz.prog) a 38 9 5 c.a c.n c.cap g Tryz.underlying38 Tryz.underlying5 Tryz.underlying9 e.n e.sl e.nil;clear d e;unfold dj.val;go_enter Tryz.func151,Tryz.ntmps151;go_wp2;go_ret;exact⟨by simp,rfl⟩
theorem jj.ptr{d:World}{e:Option Addr}{l:List Nat}(f:jj d e (l.map Cj))(b:Nat)(j:b<l.length):∃a c,e=some ⟨a,c,none⟩/\a<d.heap.size/\d.cell? ⟨a,c+b,none⟩=some (.pointer (some ⟨l[b],0,none⟩)):=by
 obtain⟨a,c,g,h,i⟩:=f b (by simpa using j);exact⟨a,c,g,h,by rw[i];simp[Cj]⟩
theorem vZ{b:Program}(a:World){e h:TypeId}{g:TypeInfo}{c d:Addr}{i j:Array Value}{r s:TypeId}(o:b.underlying e=some (.pointer h))(q:b.info? h=some g)(p:g.size≠0)
  (n:c≠d)(l:a.heap[c.block]? =some (.cells i r (0,0)))(m:a.heap[d.block]? =some (.cells j s (0,0))):
  (binOp .neq e (.pointer (some c)) (.pointer (some d))).run b a=.ok (.bool true) a:=by
 have k:∀f:Nat,(Op.equalIn (f+1) e (.pointer (some c)) (.pointer (some d))).run b a=.ok false a:=fun f=>by
  simp[Op.equalIn,run_underlying o,sizeOf,typeInfo,q,p,run_sameAddr_other a n l m]
 simp only[binOp];simp[Op.equal,Op.maxDepth,k 9999]
theorem Tryz.infoNode:∃a,Tryz.prog.info? 142=some a/\a.size≠0:=by
 have b:(Tryz.prog.info? 142).map (·.size)=some 11:=by kernel_rfl
 cases c:Tryz.prog.info? 142 with
 |none=>simp[c]at b
 |some a=>simp[c]at b;exact⟨a,rfl,by omega⟩
theorem yV(x l:dj)(b c:List Nat)(e:World)(E:jj e x.a (b.map Cj))(N:x.n=b.length)(F:jj e l.a (c.map Cj))(M:l.n=c.length)(X:b.length<=1000)(Z:c.length<=1000)(D:∀h∈b++c,∃l U,aj e h l U):
  CP 152 #[x.val,l.val] e fun n a5=>n=.returned (.bool (b==c))/\∃d,a5=e.drewN d:=by
 obtain⟨a3,ag,af⟩:=x;obtain⟨a4,al,ak⟩:=l;simp only at E N F M;subst N M;unfold dj.val;simp only;by_cases o:b.length=c.length
 .have K:((b.length:Int)!=(c.length:Int))=false:=by simp[o]
  have Q:Hd (∀(f:Nat) a (i:a<b.length) (u:a<c.length),∃h p m q,a3=some ⟨h,p,none⟩/\a4=some ⟨m,q,none⟩/\e.cell? ⟨h,p+a,none⟩=some (.pointer (some ⟨b[a],0,none⟩))/\e.cell? ⟨m,q+a,none⟩=some (.pointer (some ⟨c[a],0,none⟩))):=fun f a i u=>by
   obtain⟨h,p,V,_,t⟩:=jj.ptr E a i;obtain⟨m,q,W,_,z⟩:=jj.ptr F a u;exact⟨h,p,m,q,V,W,t,z⟩
  obtain⟨ad,B,L⟩:=Tryz.infoNode;have S:Hd (∀(j:World) (g:Nat),(binOp .neq 138 (.pointer (some ⟨g,0,none⟩)) (.pointer (some ⟨g,0,none⟩))).run Tryz.prog j=.ok (.bool false) j):=fun j g=>Lib.run_neq_ptr_same j _ Tryz.underlying138 B;have I:Hd (∀(f d g r:Nat),g∈b++c->r∈b++c->g≠r->(binOp .neq 138 (.pointer (some ⟨g,0,none⟩)) (.pointer (some ⟨r,0,none⟩))).run Tryz.prog ((e.drewN f).drewN d)=.ok (.bool true) ((e.drewN f).drewN d)):=fun f d g r i u a0=>by
   obtain⟨ah,t,a1⟩:=D g i;obtain⟨ai,z,a2⟩:=D r u;exact vZ _ Tryz.underlying138 B L (fun n=>a0 (by cases n;rfl)) a1 a2
  have H:Hd (b.length=c.length):=o;have a6:Hd ((b.length:Int)=c.length):=by unfold Hd;omega
  obtain⟨d,C⟩:∃d,d=b.length:=⟨_,rfl⟩;have s:Hd (b.length=d):=C.symm;rw[<-o,<-C];have a9:(d:Int)<=1000:=by omega
  clear E F K o C Z X D B L;go_enter Tryz.func152,Tryz.ntmps152;go_wp2
  go_loopw [5,13] (fun _ G wr=>∃a f:Nat,a<=d/\G=.int .i64 a/\wr=e.drewN f/\Hd (b.take a=c.take a)) (fun _ G _=>d - (intOf G).toNat)
  case atStart=>exact⟨0,0,by omega,by simp,rfl,by simp[Hd]⟩
  case round=>
   obtain⟨a,f,a7,rfl,rfl,J⟩:=hrel;by_cases a8:a<d
   .have Y:(a:Int)<d:=by omega
    have v:a<b.length:=by have:=s.o;omega
    have w:a<c.length:=by have:=s.o;have:=H.o;omega
    obtain⟨h,p,m,q,rfl,rfl,t,z⟩:=Q.o f a v w;by_cases k:b[a]=c[a]
    .have T:Hd (b.take (a+1)=c.take (a+1)):=by
      unfold Hd;rw[RN v,RN w,J.o,k]
     rw[k]at t;generalize c[a]=P at*;clear k;have ac:=fun j=>S.o j P;go_wp2;go_quiet (fail);go_wp2;refine⟨⟨a+1,_,by omega,by go_num,rfl,T⟩,by simp[intOf];omega⟩
    .have R:Hd ((b==c)=false):=by
      unfold Hd;cases A:b==c with
      |false=>rfl
      |true=>exfalso;have n:=eq_of_beq A;subst n;exact k rfl
     have aa:=fun d=>I.o f d b[a] c[a] (List.mem_append_left _ (bN v)) (List.mem_append_right _ (bN w)) k;have O:=fun d=>I.o 0 d b[a] c[a] (List.mem_append_left _ (bN v)) (List.mem_append_right _ (bN w)) k;have ab:∀d,(binOp .neq 138 (.pointer (some ⟨b[a],0,none⟩)) (.pointer (some ⟨c[a],0,none⟩))).run Tryz.prog (e.drewN d)=.ok (.bool true) (e.drewN d):=fun d=>by have:=O d;simpa using this
     clear O;generalize b[a]=ae at*;generalize c[a]=P at*;go_wp2;go_quiet (fail);go_wp2;go_ret;refine⟨by rw[R.o];rfl,?_⟩
     first
      |exact⟨_,rfl⟩
      |exact⟨f+nq,by simp[World.drewN,paj]⟩
   .have y:Hd ((b==c)=true):=by
     have i:=J.o;rw[aaj (by have:=s.o;omega),aaj (by have:=s.o;have:=H.o;omega)]at i;unfold Hd;rw[i];simp
    have Y:¬(a:Int)<d:=by omega
    go_wp2;go_ret;exact⟨by rw[y.o];rfl,_,rfl⟩
 .have K:((b.length:Int)!=(c.length:Int))=true:=by simp;omega
  have y:Hd ((b==c)=false):=by
   unfold Hd;cases A:b==c with
   |false=>rfl
   |true=>exact absurd (by rw[eq_of_beq A]) o
  go_enter Tryz.func152,Tryz.ntmps152;go_wp2;go_ret;exact⟨by rw[y.o];rfl,0,rfl⟩
theorem zV(f:dj)(b:List Nat)(a:World)(g:jj a f.a (b.map Cj))(d:f.n=b.length)(k:f.a=none->f.cap=0)(B:b.length<=1000):
  CP 154 #[f.val] a fun v l=>∃h:dj,v=.returned h.val/\jj l h.a (b.map Cj)/\h.n=b.length/\(∀c,h.a=some c->a.heap.size<=c.block/\c.block<l.heap.size)/\Below a.heap.size a l:=by
 obtain⟨m,e,n⟩:=f;simp only at g d k;unfold dj.val;have K:=fun a=>run_eql_slice_nil (P:=Tryz.prog) a 128 138 m e n Tryz.underlying128;cases m with
 |none=>
  obtain rfl:b=[]:=by
   cases b with
   |nil=>rfl
   |cons i O=>obtain⟨I,N,x,_⟩:=g 0 (by simp);cases x
  obtain rfl:e=0:=by simpa using d
  obtain rfl:=k rfl;clear g d k B;go_enter Tryz.func154,Tryz.ntmps154;go_wp2;go_ret;exact⟨⟨none,0,0⟩,rfl,jj.nil _ _,rfl,(fun c H=>by cases H),VM _ _⟩
 |some c=>
  have y:(a.alloc (.cells #[] 138)).ownsRow a.heap.size 138 1 (.slice (some ⟨a.heap.size,0,none⟩) 0 0) 0 []:=Ww a a.heap.size _ 1 0 [] (TM _) rfl (by simp[maxLen]);have D:jj (a.alloc (.cells #[] 138)) (some c) (b.map Cj):=g.below_all tO;have j:Hd (e=b.length):=d;have r:Hd (∀q∈b.map Cj,q.oneCell'=true):=fun q F=>by obtain⟨i,_,rfl⟩:=vN.1 F;rfl
  have s:Hd ((b.map Cj).length=e*1):=by unfold Hd;simp[d]
  clear d g;go_enter Tryz.func154,Tryz.ntmps154;go_wp2_with (at_builtin;refine rq (by rfl) (.tmp 5) (.tmp 6) 128 (by rfl) a.heap.size 138 _ 1 8 Tryz.underlying128 Tryz.infoNodeP rfl (by decide) (.slice (some ⟨a.heap.size,0,none⟩) 0 0) 0 [] (by rfl) y (some c) e n (b.map Cj) (by rfl) s.o D (fun w=>by cases w) r.o (by have:=j.o;unfold maxLen;omega) (by have:=j.o;omega) (by simp) ?_;intro Q R C z J;obtain⟨t,u,G,E,L,o,_⟩:=Nj C;subst G);go_ret;refine⟨⟨t,e,u⟩,rfl,by simpa using E,j.o,fun i p=>⟨(o i p).2.2.1,(o i p).2.2.2⟩,?_⟩;exact tO.trans (z.below (by simp) (fun M A=>by simp[Value.ownBlock]at A;omega))
theorem iW(l:Option Addr)(e q:Nat)(a:List Pj)(f:World)(i:e=a.length)(m:a.length<=1000)(k:Mk f l a)(h:∀c∈a,c.d.length=8):
  CP 153 #[.slice l e q] f fun g t=>g=.returned ((a.getLast?.map (fun c=>c.k.val)).getD (.slice none 0 0))/\t=f:=by
 cases d:a.getLast? with
 |none=>
  have:a=[]:=by simpa using d
  subst this;obtain rfl:e=0:=by simpa using i
  clear i m k h;go_enter Tryz.func153,Tryz.ntmps153;go_wp2;go_ret;exact⟨rfl,rfl⟩
 |some c=>
  have o:a≠[]:=by intro g;subst g;simp at d
  have r:=Faj.2 o;have n:a[a.length - 1]'(by omega)=c:=by
   rw[ebj,UM (by omega)]at d;exact lN d
  obtain⟨p,s,rfl,v,j⟩:=Mk.range k h (a.length - 1) (by omega);rw[n]at j;obtain⟨b,rfl⟩:∃b,e=b+1:=⟨e - 1,by omega⟩;have u:f.cell? ⟨p,s+b*10,none⟩=some (.slice c.k.a c.k.n c.k.cap):=by
   have:=j 0 c.k.val rfl;rw[show a.length - 1=b by omega]at this;exact this
  have w:(b:Int)<=1000:=by omega
  have x:((b:Int)+1==0)=false:=by simp;omega
  have y:(b:Int)+1 - 1=b:=by omega
  have z:(b:Int)<(b:Int)+1:=by omega
  clear i m k h d o r n j;unfold dj.val;go_enter Tryz.func153,Tryz.ntmps153;go_wp2;go_ret;exact⟨rfl,rfl⟩
structure ev(w:World)(m:Nat)(arr:Array MapEntry)(clock:Nat)(es:List Tj):Prop where
 heap:w.heap[m]? =some (.map arr clock)
 kv:arr.toList.map (fun e=>(e.key,e.val))=es.map (fun e=>(dV e.d,e.s.val))
 nodup:(arr.toList.map (·.born)).Nodup
 lt:∀e∈arr.toList,e.born<clock
theorem ev.len{f:World}{e:Nat}{a:Array MapEntry}{c:Nat}{b:List Tj}(d:ev f e a c b):a.size=b.length:=by
 have:=congrArg List.length d.kv;simpa using this
theorem ev.at{l:World}{k:Nat}{e:Array MapEntry}{h:Nat}{f:List Tj}(i:ev l k e h f)(d:Nat)(a:MapEntry)(j:e.toList[d]? =some a):∃c,f[d]? =some c/\a.key=dV c.d/\a.val=c.s.val:=by
 have b:(e.toList.map (fun a=>(a.key,a.val)))[d]? =some (a.key,a.val):=by rw[zN,j];rfl
 rw[i.kv,zN]at b;cases g:f[d]? with
 |none=>rw[g]at b;simp at b
 |some c=>
  rw[g]at b;simp only[GN,yN,YN]at b;exact⟨c,rfl,b.1.symm,b.2.symm⟩
theorem eG{a b:List UInt8}(c:dV a=dV b):a=b:=by
 have c:a.map fj=b.map fj:=by
  have:=congrArg Array.toList (Value.agg.inj c);simpa using this
 have g:∀d e:UInt8,fj d=fj e->d=e:=fun d e f=>by
  unfold fj at f;simp only[Value.int.injEq,true_and]at f;exact UInt8.toNat_inj.1 (by omega)
 exact(List.map_inj_right g).1 c
theorem MY{M:World}{J:Nat}{b:Array MapEntry}{B:Nat}{g:List Tj}(k:ev M J b B g)(E:∀d∈g,d.d.length=8)(u:(g.map (·.d)).Nodup)(c:List UInt8)(F:c.length=8):
  ((∀e,(Instr.findKey 36 (dV c) b.toList).run Tryz.prog e=.ok none e)/\c∉g.map (·.d))\/∃a d f,(∀e,(Instr.findKey 36 (dV c) b.toList).run Tryz.prog e=.ok (some (a,d.val)) e)/\b.toList[a]? =some d/\g[a]? =some f/\d.key=dV c/\f.d=c/\d.val=f.s.val:=by
 obtain⟨A,z⟩:=vJ c F;have w:∀d∈b.toList,∃A,keyOf Tryz.prog 36 d.key=some A:=fun d l=>by
  obtain⟨a,i⟩:=yaj l;obtain⟨f,n,u,_⟩:=k.at a d i;rw[u];exact vJ f.d (E f (mN n))
 by_cases t:c∈g.map (·.d)
 .obtain⟨a,i⟩:=yaj t;have x:a<b.toList.length:=by
   have N:=k.len;have D:=(kN.1 i).1;simp at D⊢;omega
  have l:b.toList[a]? =some b.toList[a]:=UM x;obtain⟨f,n,y,I⟩:=k.at a _ l;have s:f.d=c:=by
   rw[zN,n]at i;exact lN i
  refine RM ⟨a,b.toList[a],f,fun e=>?_,l,n,by rw[y,s],s,I⟩;rcases Tryz.digLaw.find e z b.toList w with⟨_,h⟩|⟨m,o,h,j,q⟩
  .exact absurd (by rw[y,s]) (h b.toList[a] (bN x))
  .obtain⟨p,r,v,_⟩:=k.at m o j;have G:p.d=c:=eG (v.symm.trans q);have H:m=a:=by
    have C:(g.map (·.d))[m]? =some c:=by rw[zN,r];simp[G]
    obtain⟨O,K⟩:=kN.1 C;obtain⟨P,L⟩:=kN.1 i;exact(List.getElem_inj u).1 (K.trans L.symm)
   subst H;rw[l]at j;rw[h,<-lN j]
 .refine SM ⟨fun e=>?_,t⟩;rcases Tryz.digLaw.find e z b.toList w with⟨h,_⟩|⟨m,o,h,j,q⟩
  .exact h
  .obtain⟨p,r,v,_⟩:=k.at m o j;exact absurd (vN.2 ⟨p,mN r,eG (v.symm.trans q)⟩) t
theorem Tryz.undMap:Tryz.prog.underlying 125=some (.map 36 128):=Tryz.underlying125
theorem Tryz.zeroNodes(a:World):(zeroValue 128).run Tryz.prog a=.ok (.slice none 0 0) a:=by kernel_rfl
theorem EU{b:World}{C q:Nat}{m:Option Nat}{l:List Tj}(e:Oj b C m l q)(g:List UInt8)(x:g.length=8):
  ∃(j:dj) (n:List Nd),(∀a:Nat,(Instr.lookup 125 (.map m) (dV g) false).run Tryz.prog (b.drewN a)=.ok (.slice j.a j.n j.cap) (b.drewN a))/\jj b j.a (n.map (fun c=>Cj c.b))/\j.n=n.length/\n.length<=q/\(∀c∈n,uq b c/\(∀A,Sq c A->¬Bj C m l A)/\∃k∈l,c∈k.ns):=by
 obtain⟨R,p⟩:=vJ g x;cases m with
 |none=>
  refine⟨⟨none,0,0⟩,[],fun a=>?_,jj.nil _ _,rfl,nN _,fun c f=>by cases f⟩;have F:=Tryz.digLaw.check (b.drewN a) true p;have h:=Tryz.digLaw.find (b.drewN a) p [] (fun k G=>by cases G);rcases h with⟨h,_⟩|⟨O,k,_,u,_⟩
  .simp[Instr.lookup,run_underlying Tryz.undMap,F,h,Tryz.zeroNodes,Result.andThen]
  .simp at u
 |some B=>
  obtain⟨r,t,z,H,J,I⟩:=e.map;have E:ev b B r t l:=⟨z,H,J,I⟩;have y:∀a,(getObj B).run Tryz.prog (b.drewN a)=.ok (.map r t) (b.drewN a):=fun a=>MapKept.run_getObj_map (w:=b.drewN a) z;have v:∀a o,(Instr.checkKey o 10000 36 (dV g)).run Tryz.prog (b.drewN a)=.ok () (b.drewN a):=fun a o=>Tryz.digLaw.check (b.drewN a) o p;rcases MY E e.d8 e.kd g x with⟨K,_⟩|⟨O,k,d,N,u,h,P,Q,D⟩
  .refine⟨⟨none,0,0⟩,[],fun a=>?_,jj.nil _ _,rfl,nN _,fun c f=>by cases f⟩;simp[Instr.lookup,run_underlying Tryz.undMap,y,v,K,Tryz.zeroNodes,Result.andThen]
  .have i:=mN h;obtain⟨L,M⟩:=jj.ofOwn (s:=d.s) (e.own d i);refine⟨d.s,d.ns,fun a=>?_,L,M,e.cnt d i,fun c f=>⟨e.nodes d i c f,e.foot d i c f,d,i,f⟩⟩;simp[Instr.lookup,run_underlying Tryz.undMap,y,v,N,Result.andThen,D,dj.val]
theorem ew{w:World}{i:Nat}{d:Array MapEntry}{e:Nat}{f:List Tj}(a:ev w i d e f)(F:∀c∈f,c.d.length=8)(z:(f.map (·.d)).Nodup)(b:List UInt8)(t:b.length=8):
  ∃(m:World) (o:Array MapEntry) (C:Nat) (n:List Tj) (j:Nat) (g:Tj) (p:Nat),(Instr.mapEntry 125 (.map (some i)) (dV b)).run Tryz.prog w=.ok (.tuple #[.slice g.s.a g.s.n g.s.cap,.int .i64 p]) m/\
   ev m i o C n/\n[j]? =some g/\g.d=b/\o.toList[j]?.map (·.born)=some p/\(n=f\/(b∉f.map (·.d)/\g=⟨b,⟨none,0,0⟩,[]⟩/\n=f++[g]))/\bj (fun l=>l=i) w m/\m.heap.size=w.heap.size:=by
 obtain⟨Q,A⟩:=vJ b t;have v:(getObj i).run Tryz.prog w=.ok (.map d e) w:=MapKept.run_getObj_map a.heap;have s:(Instr.checkKey false 10000 36 (dV b)).run Tryz.prog w=.ok () w:=Tryz.digLaw.check w false A;have B:∀k:Obj,(setObj i k).run Tryz.prog w=.ok () {w with heap:=w.heap.setIfInBounds i k}:=fun k=>MapKept.run_setObj_map k a.heap;have u:∀k:Obj,bj (fun l=>l=i) w {w with heap:=w.heap.setIfInBounds i k}:=fun k=>⟨rfl,rfl,rfl,by simp,fun l z I=>(MapKept.heap_set a.heap).2 l I⟩;rcases MY a F z b t with⟨K,J⟩|⟨j,c,g,O,q,G,r,D,E⟩
 .refine⟨_,d.push {key:=dV b,val:=.slice none 0 0,born:=e},e+1,f++[⟨b,⟨none,0,0⟩,[]⟩],f.length,⟨b,⟨none,0,0⟩,[]⟩,e,?_,?_,?_,rfl,?_,RM ⟨J,rfl,rfl⟩,u (.map (d.push {key:=dV b,val:=.slice none 0 0,born:=e}) (e+1)),by simp⟩
  .simp[Instr.mapEntry,run_underlying Tryz.undMap,v,s,K,Tryz.zeroNodes,B,Result.andThen,goInt]
  .refine⟨(MapKept.heap_set a.heap).1,?_,?_,?_⟩
   .simp[a.kv,dj.val]
   .rw[Array.toList_push,rN];simp only[ZM,dN];rw[List.nodup_append];refine⟨a.nodup,by simp,?_⟩;intro R M S N;simp only[eN]at N;obtain⟨c,h,rfl⟩:=vN.1 M;have:=a.lt c h;omega
   .intro c h;rw[Array.toList_push]at h;rcases fN.1 h with h|h
    .have:=a.lt c h;omega
    .simp only[eN]at h;subst h;simp
  .simp
  .have:=a.len;rw[Array.toList_push,MN (by simp;omega)];simp[this]
 .have L:=Tryz.digLaw.stays w A;have y:d[j]? =some c:=by simpa using q
  have H:d.modify j (fun c=>{c with key:=dV b})=d:=by
   apply Array.ext'
   apply Taj
   intro P;rw[vaj,vaj,Array.getElem?_modify];by_cases x:j=P
   .subst x;rw[if_pos rfl,y];simp only[GN];rw[<-r]
   .rw[if_neg x]
  refine⟨_,d,e,f,j,g,c.born,?_,?_,G,D,by rw[q];rfl,SM rfl,u (.map d e),by simp⟩
  .simp[Instr.mapEntry,run_underlying Tryz.undMap,v,s,O,y,r,L,B,Result.andThen,goInt,E,dj.val];rw[H]
  .exact⟨(MapKept.heap_set a.heap).1,a.kv,a.nodup,a.lt⟩
theorem Vy{e:World}{f:Nat}{a:Array MapEntry}{s:Nat}{t:List Tj}(h:ev e f a s t){d m:Nat}{z g:Tj}(B:t[d]? =some z)(u:a.toList[d]?.map (·.born)=some m)(H:g.d=z.d):
  ∃(r:World) (F:Array MapEntry),(Instr.entryStore 125 (.map (some f)) (.int .i64 m) (.slice g.s.a g.s.n g.s.cap)).run Tryz.prog e=.ok () r/\ev r f F s (t.set d g)/\bj (fun p=>p=f) e r/\r.heap.size=e.heap.size:=by
 have J:(getObj f).run Tryz.prog e=.ok (.map a s) e:=MapKept.run_getObj_map h.heap;have O:∀l:Obj,(setObj f l).run Tryz.prog e=.ok () {e with heap:=e.heap.setIfInBounds f l}:=fun l=>MapKept.run_setObj_map l h.heap;have I:∀l:Obj,bj (fun p=>p=f) e {e with heap:=e.heap.setIfInBounds f l}:=fun l=>⟨rfl,rfl,rfl,by simp,fun p V v=>(MapKept.heap_set h.heap).2 p v⟩;cases n:a.toList[d]? with
 |none=>rw[n]at u;cases u
 |some b=>
  rw[n]at u;have A:b.born=m:=by simpa using u
  obtain⟨x,D⟩:=kN.1 n;have K:a.findIdx? (fun b=>(b.born:Int)==(m:Int))=some d:=by
   rw[Array.findIdx?_eq_some_iff_getElem];refine⟨by simpa using x,?_,?_⟩
   .have:a[d]'(by simpa using x)=b:=by simpa using D
    rw[this,A];simp
   .intro c U;have N:=h.nodup;have C:c<a.toList.length:=by omega
    have v:¬a.toList[c].born=a.toList[d].born:=fun w=>by
     have:=(List.getElem_inj (i:=c) (j:=d) (h₀:=by simpa using C) (h₁:=by simpa using x) N).1 (by simpa using w);omega
    rw[D,A]at v;have M:¬((a[c]'(by simpa using C)).born:Int)=(m:Int):=by
     intro w
     apply v
     have:=Int.ofNat_inj.1 w;simpa using this
    simpa using M
  refine⟨_,a.modify d (fun b=>{b with val:=.slice g.s.a g.s.n g.s.cap}),?_,?_,I (.map (a.modify d (fun b=>{b with val:=.slice g.s.a g.s.n g.s.cap})) s),by simp⟩
  .simp[Instr.entryStore,J,asInt,asIntOf,K,O,Result.andThen]
  .have y:∀{T:Type} (q:MapEntry->T) (c:Nat),((a.modify d (fun b=>{b with val:=.slice g.s.a g.s.n g.s.cap})).toList.map q)[c]? =if d=c then(a.toList[c]?).map (fun b=>q {b with val:=.slice g.s.a g.s.n g.s.cap})else(a.toList[c]?).map q:=fun q c=>by
    rw[zN,vaj,Array.getElem?_modify];by_cases k:d=c
    .rw[if_pos k,if_pos k,<-vaj];cases a.toList[c]? <;>rfl
    .rw[if_neg k,if_neg k,<-vaj]
   refine⟨(MapKept.heap_set h.heap).1,?_,?_,?_⟩
   .apply Taj
    intro c;rw[y];have o:(a.toList.map (fun b=>(b.key,b.val)))[c]? =(t.map (fun b=>(dV b.d,b.s.val)))[c]? :=by rw[h.kv]
    rw[zN,zN]at o;rw[zN];by_cases k:d=c
    .subst k;rw[if_pos rfl,n];rw[n,B]at o;simp only[GN,yN,YN]at o;have L:=(kN.1 B).1;rw[Caj L];simp[o.1,H,dj.val]
    .rw[if_neg k,Oaj k];exact o
   .have:(a.modify d (fun b=>{b with val:=.slice g.s.a g.s.n g.s.cap})).toList.map (·.born)=a.toList.map (·.born):=by
     apply Taj
     intro c;rw[y,zN]
     split<;>rfl
    rw[this];exact h.nodup
   .intro E P;have:E.born∈a.toList.map (·.born):=by
     have G:(a.modify d (fun b=>{b with val:=.slice g.s.a g.s.n g.s.cap})).toList.map (·.born)=a.toList.map (·.born):=by
      apply Taj
      intro c;rw[y,zN]
      split<;>rfl
     rw[<-G];exact vN.2 ⟨E,P,rfl⟩
    obtain⟨S,R,Q⟩:=vN.1 this;rw[<-Q];exact h.lt S R
abbrev qq(w:World)(sb:Nat)(en:dj)(mp:Option Nat)(tr:dj):Prop:=aj w sb 130 [en.val,.map mp,tr.val]
theorem Tryz.sizeEntry:(Tryz.prog.info? 74).map (·.size)=some 10:=by kernel_rfl
theorem JX(b:World)(c a f g:dj)(e:List Pj)(d h:Nat)(w:d<=e.length)(R:h<=e.length)(Q:e.length<=60)(m:∀i∈e,i.d.length=8)(L:jj b c.a (Sj e))(I:c.a=none->d=0/\c.cap=0)
  (D:jj b a.a (Sj (e.drop h)))(v:a.n=e.length - h)(J:a.a=none->a.n=0/\a.cap=0):
  CP 79 #[.slice (some ⟨b.heap.size+1,0,none⟩) 3 3] (((b.alloc (.cells (eO f g) 74)).alloc (.cells #[.slice c.a d c.cap,.slice (some ⟨b.heap.size,0,none⟩) 1 1,.slice a.a a.n a.cap] 67)).drew)
   fun u s=>∃j:dj,u=.returned (.slice j.a j.n j.cap)/\s.ownsRow b.heap.size 74 10 j.val (nz e d [⟨f,g,uz⟩] h).length (Sj (nz e d [⟨f,g,uz⟩] h))/\Below b.heap.size b s:=by
 have k:Below b.heap.size b (((b.alloc (.cells (eO f g) 74)).alloc (.cells #[.slice c.a d c.cap,.slice (some ⟨b.heap.size,0,none⟩) 1 1,.slice a.a a.n a.cap] 67)).drew):=by
  have C:=((bj.refl (fun _=>False) b).alloc (.cells (eO f g) 74)).alloc (.cells #[.slice c.a d c.cap,.slice (some ⟨b.heap.size,0,none⟩) 1 1,.slice a.a a.n a.cap] 67);exact C.drew.below (TM _) (fun A n=>by cases n)
 have y:aj (((b.alloc (.cells (eO f g) 74)).alloc (.cells #[.slice c.a d c.cap,.slice (some ⟨b.heap.size,0,none⟩) 1 1,.slice a.a a.n a.cap] 67)).drew) b.heap.size 74 (qv ⟨f,g,uz⟩):=(aj.new b 74 (qv ⟨f,g,uz⟩)).alloc (.cells #[.slice c.a d c.cap,.slice (some ⟨b.heap.size,0,none⟩) 1 1,.slice a.a a.n a.cap] 67);have l:aj (((b.alloc (.cells (eO f g) 74)).alloc (.cells #[.slice c.a d c.cap,.slice (some ⟨b.heap.size,0,none⟩) 1 1,.slice a.a a.n a.cap] 67)).drew) (b.heap.size+1) 67 [.slice c.a d c.cap,.slice (some ⟨b.heap.size,0,none⟩) 1 1,.slice a.a a.n a.cap]:=aj.new_at (b.alloc (.cells (eO f g) 74)) 67 (b.heap.size+1) _ (by simp);have M:=L.below_all k;have E:=D.below_all k;generalize (((b.alloc (.cells (eO f g) 74)).alloc (.cells #[.slice c.a d c.cap,.slice (some ⟨b.heap.size,0,none⟩) 1 1,.slice a.a a.n a.cap] 67)).drew)=t at*;have N:∀i∈e.take d,i.d.length=8:=fun i q=>m i (TN q);have H:∀i∈e.drop h,i.d.length=8:=fun i q=>m i (laj q);have z:pN [(⟨c.a,d,c.cap⟩,Sj (e.take d)),(⟨some ⟨b.heap.size,0,none⟩,1,1⟩,qv ⟨f,g,uz⟩),(a,Sj (e.drop h))]=(nz e d [⟨f,g,uz⟩] h).length:=by
  simp[pN,nz,v];omega
 have K:pC [(⟨c.a,d,c.cap⟩,Sj (e.take d)),(⟨some ⟨b.heap.size,0,none⟩,1,1⟩,qv ⟨f,g,uz⟩),(a,Sj (e.drop h))]=Sj (nz e d [⟨f,g,uz⟩] h):=by
  simp[pC,nz,Sj]
 have G:=AZ (b.heap.size+1) 3 [(⟨c.a,d,c.cap⟩,Sj (e.take d)),(⟨some ⟨b.heap.size,0,none⟩,1,1⟩,qv ⟨f,g,uz⟩),(a,Sj (e.drop h))] t rfl (by simp) (by rw[z];simp[nz];omega) ?_ l.lt ?_
 .refine G.mono ?_;rintro u s ⟨j,rfl,o,F⟩;refine⟨j,rfl,?_,k.trans (F.mono k.size)⟩;rw[z,K]at o;exact Hj o (fun A n=>WM k.size (o.lt A n).1)
 .intro r p
  match r,p with
  |0,_=>exact l.cell 0 (by simp)
  |1,_=>exact l.cell 1 (by simp)
  |2,_=>exact l.cell 2 (by simp)
 .intro S x;simp only[IN,jaj,or_false]at x;rcases x with rfl|rfl|rfl
  .refine⟨?_,?_,I,Gk _⟩
   .show jj t c.a (Sj (e.take d));rw[UQ e m d w];exact M.take _
   .show(Sj (e.take d)).length=d*10;rw[mv _ N,aN,LN w]
  .refine⟨?_,rfl,(fun B=>by cases B),?_⟩
   .intro r p;exact⟨b.heap.size,0,rfl,y.lt,by rw[sN];exact y.cell r p⟩
   .intro P O;exact Gk [⟨f,g,uz⟩] P (by simpa[Sj]using O)
  .refine⟨E,?_,J,Gk _⟩;show(Sj (e.drop h)).length=a.n*10;rw[mv _ H,oN,v]
theorem bU{i:Type}(c:List i)(a h:Nat)(g:i)(l:a<=c.length)(b:Nat):(c.take a++[g]++c.drop h)[b]? =if b<a then c[b]? else if b=a then some g else c[h+(b - a - 1)]? :=by
 have k:(c.take a).length=a:=by rw[aN];omega
 by_cases d:b<a
 .rw[if_pos d,NN,DN (by omega),Yaj d]
 .rw[if_neg d,NN,MN (by omega),k];by_cases e:b=a
  .rw[if_pos e];subst e;simp
  .rw[if_neg e];obtain⟨f,j⟩:∃f,b - a=f+1:=⟨b - a - 1,by omega⟩;rw[j,List.singleton_append,zaj,oaj];rfl
theorem PL{i l:World}{w v:dj}{e:List Pj}{o:List ej}{c d:dj}{p value:List UInt8}{a b:Nat}(n:Iz i w e o)(m:Below i.heap.size i l)(s:BS i c p)(D:BS i d value)(B:a<=e.length)
  (C:l.ownsRow i.heap.size 74 10 v.val (nz e a [⟨c,d,uz⟩] b).length (Sj (nz e a [⟨c,d,uz⟩] b))):Iz l v (nz e a [⟨c,d,uz⟩] b) (o.take a++[⟨p,value,0⟩]++o.drop b):=by
 refine⟨Hj C (fun F s=>nN _),?_,?_⟩
 .have:=n.len;simp[nz];omega
 .intro h z A;have E:=n.len;have x:(nz e a [⟨c,d,uz⟩] b)[h]? =_:=bU e a b ⟨c,d,uz⟩ B h;have y:=bU o a b ⟨p,value,0⟩ (by omega) h;have f:(nz e a [⟨c,d,uz⟩] b)[h]? =some (nz e a [⟨c,d,uz⟩] b)[h]:=UM z;have g:=UM A;rw[x]at f;rw[y]at g;by_cases t:h<a
  .rw[if_pos t]at f g;obtain⟨q,j⟩:=kN.1 f;obtain⟨r,k⟩:=kN.1 g;rw[<-k];have:=(n.ok h q r).below m;rw[j]at this;exact this
  .rw[if_neg t]at f g;by_cases u:h=a
   .rw[if_pos u]at f g;have j:=lN f;have k:=lN g;rw[<-k];have:cw l ⟨c,d,uz⟩ ⟨p,value,0⟩:=⟨s.below m,D.below m,rfl⟩;rw[j]at this;exact this
   .rw[if_neg u]at f g;obtain⟨q,j⟩:=kN.1 f;obtain⟨r,k⟩:=kN.1 g;rw[<-k];have:=(n.ok _ q r).below m;rw[j]at this;exact this
theorem KH{en l:dj}{xs:List Pj}{g h:dj}{i j n:Nat}(o:∀c,l.val.ownBlock=some c->n<=c)(m:∀b,g.a=some b->n<=b.block)(p:∀b,h.a=some b->n<=b.block):
  ∀c,tx l (nz xs i [⟨g,h,uz⟩] j) c->c<n->tx en xs c:=fun c d q=>by
 rcases d with d|⟨b,a,d⟩
 .have:=o c d;omega
 .have e:b∈xs\/b=⟨g,h,uz⟩:=by
   unfold nz at a;simp only[fN,eN]at a;rcases a with(a|a)|a
   .exact SM (TN a)
   .exact RM a
   .exact SM (laj a)
  rcases e with e|rfl
  .exact RM ⟨b,e,d⟩
  .rcases d with⟨k,f,rfl⟩|⟨k,f,rfl⟩
   .have:=m k f;omega
   .have:=p k f;omega
theorem cU{c h g:World}{b:Nat}{o C e:dj}{B:Option Nat}{d:List Pj}{u:List ej}{l m:dj}{A value:List UInt8}{f k:Nat}(t:qq c b o B C)(E:∀a,tx o d a->a≠b)(D:Iz c o d u)(s:Below c.heap.size c h)
  (q:BS h l A)(H:BS h m value)(G:∀r,l.a=some r->c.heap.size<=r.block)(I:∀r,m.a=some r->c.heap.size<=r.block)(F:f<=d.length)
  (z:g.ownsRow h.heap.size 74 10 e.val (nz d f [⟨l,m,uz⟩] k).length (Sj (nz d f [⟨l,m,uz⟩] k)))(x:Below h.heap.size h g):
  qq (g.setCell ⟨b,0,none⟩ e.val) b e B C/\Iz (g.setCell ⟨b,0,none⟩ e.val) e (nz d f [⟨l,m,uz⟩] k) (u.take f++[⟨A,value,0⟩]++u.drop k)/\bj (fun a=>a=b) c (g.setCell ⟨b,0,none⟩ e.val)/\
   (∀a,tx e (nz d f [⟨l,m,uz⟩] k) a->a<c.heap.size->tx o d a):=by
 have w:Below c.heap.size c g:=s.trans (x.mono s.size);have y:=KH (en:=o) (xs:=d) (i:=f) (j:=k) (n:=c.heap.size) (fun a q=>WM s.size (z.lt a q).1) G I;refine⟨by simpa using(aj.below t (aj.lt t) w).set 0 e.val,?_,(bj.of_below_all (S:=fun a=>a=b) w).setCell (p:=⟨b,0,none⟩) rfl _,y⟩;refine(PL (D.below s) x q H F z).frame ((bj.refl (fun a=>a=b) g).setCell (p:=⟨b,0,none⟩) rfl _) (fun a q v=>?_);exact E a (y a q (by rw[v];exact aj.lt t)) v
theorem DM(d:Nat)(b b4:dj)(b3:Option Nat)(u:List Pj)(m:List ej)(y C:dj)(l value:List UInt8)(f:World)(P:qq f d b b3 b4)(aR:∀E,tx b u E->E≠d)(t:Iz f b u m)(bc:qx m)(Q:u.length<=60)(D:BS f y l)(J:BS f C value)
  (b0:1<=l.length)(L:l.length<=12)(a9:value.length<=12)(aS:Qj m l=false->u.length<60):
  CP 40 #[.pointer (some ⟨d,0,none⟩),y.val,C.val] f fun k ar=>k=.returned (.int .i64 0)/\
   ∃a3 b5,qq ar d a3 b3 b4/\Iz ar a3 b5 (Ek m l value)/\bj (fun E=>E=d) f ar/\(∀E,tx a3 b5 E->E<f.heap.size->tx b u E):=by
 have x:=P.lt;have a5:f.cell? ⟨d,0,none⟩=some (.slice b.a b.n b.cap):=P.cell 0 (by simp);obtain⟨a6,bb,aP,aO⟩:=vj (a:=b.a) (n':=b.n) (cap:=b.cap) t.own;have T:=(jj.ofOwn (s:=b) t.own).1;have aB:Hd (Calls _ _ _ _ _):=Mv y.a y.n y.cap f (by rw[D.n];unfold maxLen;omega);have aC:Hd (Calls _ _ _ _ _):=Cw C.a C.n C.cap f (by rw[J.n];unfold maxLen;omega);have b1:(decide (1<=y.n)&&decide (y.n<=12))=true:=by rw[D.n];simp[b0,L]
 have b2:decide (C.n<=12)=true:=by rw[J.n];simp[a9]
 rw[b1]at aB;rw[b2]at aC;have aA:Hd (Calls _ _ _ _ _):=kJ b u m y l f a6 t.len Q T t.ok bc D;have aT:=Ky m l;have aI:= @Lv m l;have aE:Hd (Ek m l value=m.take (pj m l)++[⟨l,value,0⟩]++m.drop (if Qj m l then pj m l+1 else pj m l)):=rfl;rw[t.len]at aT;have b7:Hd (m.length=u.length):=t.len;generalize pj m l=c at*;generalize Qj m l=ap at*;have v:Hd (b.n=u.length):=a6;have F:Hd (b.n<=b.cap):=by unfold Hd;omega
 have o:Hd (c<=b.n):=by unfold Hd;omega
 have a1:Hd (ap=true->c<b.n):=fun k=>by have:=aI k;have:=b7.o;omega
 have b6:Hd (ap=false->b.n<60):=fun k=>by have:=aS k;omega
 have bl:y.n<=12:=by rw[D.n];exact L
 have bm:C.n<=12:=by rw[J.n];exact a9
 have bi:(b.cap:Int)<=9223372036854775807:=by unfold maxLen at aP;omega
 have a0:Hd (b.a=none->b.n=0/\b.cap=0):=fun k=>by
  rcases aO with⟨_,G,X⟩|⟨bh,G,_⟩
  .exact⟨by omega,X⟩
  .rw[k]at G;cases G
 have aD:Hd (b.a=none->c=0/\b.cap=0):=fun k=>by have:=a0.o k;have:=o.o;omega
 clear b1 b2 aI aS a6 bb aP aT b0 L a9 aO;unfold dj.val at aA⊢;go_enter Tryz.func40,Tryz.ntmps40;go_wp2_with fail;refine aB.o.mono ?_;rintro k N ⟨rfl,U⟩;obtain rfl:f=N:=U.symm;clear U;go_wp2_with fail;refine aC.o.mono ?_;rintro k N ⟨rfl,U⟩;obtain rfl:f=N:=U.symm;clear U;go_wp2_with fail;refine aA.o.mono ?_;rintro k N ⟨rfl,r⟩;have bg:N.cell? ⟨d,0,none⟩=some (.slice b.a b.n b.cap):=by rw[r.cell (p:=⟨d,0,none⟩) x];exact a5
 cases ap
 .have bk:¬(60:Int)<=(b.n:Int):=by have:=b6.o rfl;omega
  have b9:(c:Int)<=b.n:=by have:=o.o;omega
  have ba:(c:Int)<=b.cap:=by have:=o.o;have:=F.o;omega
  go_wp2_with (refine dw (by rfl) 67 74 (.tmp 43) (.tmp 44) (by rfl) b.a b.n b.cap c 10 (by rfl) (by rfl) Tryz.underlying67 Tryz.sizeEntry o.o F.o ?_);refine(tJ y l N (D.below r) (by rw[<-D.n];omega)).mono ?_;rintro k au ⟨g,rfl,L,a7,A⟩;unfold dj.val;go_wp2_with fail;refine(tJ C value au ((J.below r).below A) (by rw[<-J.n];omega)).mono ?_;rintro k j ⟨h,rfl,aa,ab,H⟩;unfold dj.val;have z:Below f.heap.size f j:=(r.trans (A.mono r.size)).trans (H.mono (r.trans (A.mono r.size)).size);have R:(j.alloc (.cells (eO g h) 74)).cell? ⟨d,0,none⟩=some (.slice b.a b.n b.cap):=by
   rw[(z.alloc z.size _).cell (p:=⟨d,0,none⟩) x];exact a5
  have e:aj (j.alloc (.cells (eO g h) 74)) j.heap.size 74 [.slice g.a g.n g.cap,.slice h.a h.n h.cap,.int .u8 0,.int .u8 0,.int .u8 0,.int .u8 0,.int .u8 0,.int .u8 0,.int .u8 0,.int .u8 0]:=aj.new j _ _;have I:Below j.heap.size j (j.alloc (.cells (eO g h) 74)):=tO;go_wp2;generalize j.alloc (.cells (eO g h) 74)=w at*;have ad:=e.cell 0 (by simp);have ae:=e.cell 1 (by simp);have af:=e.cell 2 (by simp);have ag:=e.cell 3 (by simp);have ah:=e.cell 4 (by simp);have ai:=e.cell 5 (by simp);have ak:=e.cell 6 (by simp);have al:=e.cell 7 (by simp);have am:=e.cell 8 (by simp);have an:=e.cell 9 (by simp);simp only[cN,gN]at ad ae af ag ah ai ak al am an;have q:Below f.heap.size f w:=z.trans (I.mono z.size);have Y:Hd (Calls _ _ _ _ _):=JX w b ⟨Fz b.a b.cap c 10,b.n - c,b.cap - c⟩ g h u c c (by have:=o.o;have:=v.o;omega) (by have:=o.o;have:=v.o;omega) Q t.d8 (T.below_all q) aD.o
   (by
    have G:=jj.cut (n:=b.n) (cap:=b.cap) (i:=c) (size:=10) (T.below_all q) (by rw[mv _ t.d8,v.o]) o.o F.o;rw[uJ _ t.d8 _ (by have:=o.o;have:=v.o;omega)];exact G) (by show b.n - c=_;rw[v.o]) (fun a4=>by have:=a0.o (Mw a4);simp only;omega)
  have b8:(w.alloc (.cells (eO g h) 74)).cell? ⟨d,0,none⟩=some (.slice b.a b.n b.cap):=by
   rw[((VM w.heap.size w).alloc (TM _) _).cell (p:=⟨d,0,none⟩) (qN x q.size)];exact R
  have a2:Hd (w.frozen? ⟨d,0,none⟩=false):=(P.below x q).frozen 0;have S:c<=u.length:=by have:=o.o;have:=v.o;omega
  have Z:Hd (c<=u.length):=S;clear Q S
  go_region_with (go_at_call 79;refine Y.o.mono ?_;rintro k W ⟨ao,rfl,a8,K⟩;have be:W.cell? ⟨d,0,none⟩=some (.slice b.a b.n b.cap):=(by rw[K.cell (p:=⟨d,0,none⟩) (qN x q.size)];exact R);have bf:W.frozen? ⟨d,0,none⟩=false:=(by rw[K.frozen (p:=⟨d,0,none⟩) (qN x q.size)];exact a2.o))
  all_goals
   go_wp2;go_ret;have V:=r.size;have ac:=A.size;have bd:=H.size;have B:=cU P aR t q ((L.below H).below I) (aa.below I) (fun O M=>WM V (a7 O M)) (fun O M=>WM (WM V ac) (ab O M)) Z.o a8 K;refine⟨rfl,ao,_,B.1,?_,B.2.2.1,B.2.2.2⟩;rw[aE.o];exact B.2.1
 .have av:Hd (1<=b.n - c):=by have:=a1.o (by trivial);unfold Hd;omega
  have ax:Hd (b.n - c<=b.cap - c):=by have:=F.o;unfold Hd;omega
  have b9:(c:Int)<=b.n:=by have:=o.o;omega
  have ba:(c:Int)<=b.cap:=by have:=o.o;have:=F.o;omega
  go_wp2_with (first
   |(refine dw (by rfl) 67 74 (.tmp 43) (.tmp 44) (by rfl) b.a b.n b.cap c 10 (by rfl) (by rfl) Tryz.underlying67 Tryz.sizeEntry o.o F.o ?_)
   |(refine dw (by rfl) 67 74 (.tmp 47) (.const (.int .i64 1)) (by rfl) (Fz b.a b.cap c 10) (b.n - c) (b.cap - c) 1 10 (by rfl) (by rfl) Tryz.underlying67 Tryz.sizeEntry av.o ax.o ?_))
  refine(tJ y l N (D.below r) (by rw[<-D.n];omega)).mono ?_;rintro k au ⟨g,rfl,L,a7,A⟩;unfold dj.val;go_wp2_with fail;refine(tJ C value au ((J.below r).below A) (by rw[<-J.n];omega)).mono ?_;rintro k j ⟨h,rfl,aa,ab,H⟩;unfold dj.val;have z:Below f.heap.size f j:=(r.trans (A.mono r.size)).trans (H.mono (r.trans (A.mono r.size)).size);have R:(j.alloc (.cells (eO g h) 74)).cell? ⟨d,0,none⟩=some (.slice b.a b.n b.cap):=by
   rw[(z.alloc z.size _).cell (p:=⟨d,0,none⟩) x];exact a5
  have e:aj (j.alloc (.cells (eO g h) 74)) j.heap.size 74 [.slice g.a g.n g.cap,.slice h.a h.n h.cap,.int .u8 0,.int .u8 0,.int .u8 0,.int .u8 0,.int .u8 0,.int .u8 0,.int .u8 0,.int .u8 0]:=aj.new j _ _;have I:Below j.heap.size j (j.alloc (.cells (eO g h) 74)):=tO;go_wp2;generalize j.alloc (.cells (eO g h) 74)=w at*;have ad:=e.cell 0 (by simp);have ae:=e.cell 1 (by simp);have af:=e.cell 2 (by simp);have ag:=e.cell 3 (by simp);have ah:=e.cell 4 (by simp);have ai:=e.cell 5 (by simp);have ak:=e.cell 6 (by simp);have al:=e.cell 7 (by simp);have am:=e.cell 8 (by simp);have an:=e.cell 9 (by simp);simp only[cN,gN]at ad ae af ag ah ai ak al am an;have q:Below f.heap.size f w:=z.trans (I.mono z.size);have Y:Hd (Calls _ _ _ _ _):=JX w b ⟨Fz (Fz b.a b.cap c 10) (b.cap - c) 1 10,b.n - c - 1,b.cap - c - 1⟩ g h u c (c+1) (by have:=o.o;have:=v.o;omega) (by have:=a1.o (by trivial);have:=v.o;omega) Q t.d8 (T.below_all q) aD.o
   (by
    have G:=jj.cut (n:=b.n) (cap:=b.cap) (i:=c) (size:=10) (T.below_all q) (by rw[mv _ t.d8,v.o]) o.o F.o;have X:=jj.cut (n:=b.n - c) (cap:=b.cap - c) (i:=1) (size:=10) G (by rw[oN,mv _ t.d8,v.o,Nat.sub_mul]) av.o ax.o;rw[List.drop_drop]at X;rw[uJ _ t.d8 _ (by have:=a1.o (by trivial);have:=v.o;omega),show(c+1)*10=c*10+1*10 by omega];exact X) (by show b.n - c - 1=_;rw[v.o];omega) (fun a4=>by have:=a0.o (Mw (Mw a4));simp only;omega)
  have b8:(w.alloc (.cells (eO g h) 74)).cell? ⟨d,0,none⟩=some (.slice b.a b.n b.cap):=by
   rw[((VM w.heap.size w).alloc (TM _) _).cell (p:=⟨d,0,none⟩) (qN x q.size)];exact R
  have a2:Hd (w.frozen? ⟨d,0,none⟩=false):=(P.below x q).frozen 0;have S:c<=u.length:=by have:=o.o;have:=v.o;omega
  have Z:Hd (c<=u.length):=S;clear Q S
  go_region_with (go_at_call 79;refine Y.o.mono ?_;rintro k W ⟨ao,rfl,a8,K⟩;have be:W.cell? ⟨d,0,none⟩=some (.slice b.a b.n b.cap):=(by rw[K.cell (p:=⟨d,0,none⟩) (qN x q.size)];exact R);have bf:W.frozen? ⟨d,0,none⟩=false:=(by rw[K.frozen (p:=⟨d,0,none⟩) (qN x q.size)];exact a2.o))
  all_goals
   go_wp2;go_ret;have V:=r.size;have ac:=A.size;have bd:=H.size;have B:=cU P aR t q ((L.below H).below I) (aa.below I) (fun O M=>WM V (a7 O M)) (fun O M=>WM (WM V ac) (ab O M)) Z.o a8 K;refine⟨rfl,ao,_,B.1,?_,B.2.2.1,B.2.2.2⟩;rw[aE.o];exact B.2.1
theorem Oj.frame{n f:World}{m e j:Nat}{h:List Tj}(a:Oj n m (some e) h j)(k:bj (fun d=>d=e) n f)(p:IX f (some e) h):Oj f m (some e) h j:=
 ⟨p,a.d8,fun b c=>ij (a.own b c) k (fun d i g=>(a.msb b c d i).2 (by rw[g])),fun b c o l=>(a.nodes b c o l).frame k (fun d i g=>a.foot b c o l d i (RM (SM (by rw[g])))),a.apart,a.foot,a.msb,a.cnt,a.kd⟩
theorem aY{g e:Nat}{f:Option Nat}{d:List Tj}{h:List UInt8}:Bj g f (d++[⟨h,⟨none,0,0⟩,[]⟩]) e↔Bj g f d e:=by
 constructor
 .rintro(a|a|⟨c,b,a⟩)
  .exact SM a
  .exact RM (SM a)
  .rcases fN.1 b with b|b
   .exact RM (RM ⟨c,b,a⟩)
   .simp only[eN]at b;subst b;simp[dj.val,Value.ownBlock]at a
 .rintro(a|a|⟨c,b,a⟩)
  .exact SM a
  .exact RM (SM a)
  .exact RM (RM ⟨c,List.mem_append_left _ b,a⟩)
theorem Oj.snoc{y k:World}{x o m:Nat}{g:List Tj}{l:List UInt8}(f:Oj y x (some m) g o)(t:bj (fun c=>c=m) y k)(A:l.length=8)(G:l∉g.map (·.d))(E:IX k (some m) (g++[⟨l,⟨none,0,0⟩,[]⟩])):Oj k x (some m) (g++[⟨l,⟨none,0,0⟩,[]⟩]) o:=by
 have I:∀b∈g,k.ownsRow 0 138 1 b.s.val b.ns.length (b.ns.map (fun e=>Cj e.b)):=fun b a=>ij (f.own b a) t (fun c d n=>(f.msb b a c d).2 (by rw[n]));have H:∀b∈g,∀e∈b.ns,uq k e:=fun b a e h=>(f.nodes b a e h).frame t (fun c d n=>f.foot b a e h c d (RM (SM (by rw[n]))));have r:(⟨none,0,0⟩:dj).val.ownBlock=none:=rfl;refine⟨E,?_,?_,?_,?_,?_,?_,?_,?_⟩
 .intro b a;rcases fN.1 a with a|a
  .exact f.d8 b a
  .simp only[eN]at a;subst a;exact A
 .intro b a;rcases fN.1 a with a|a
  .exact I b a
  .simp only[eN]at a;subst a;exact iN _ _ _ _
 .intro b a e h;rcases fN.1 a with a|a
  .exact H b a e h
  .simp only[eN]at a;subst a;cases h
 .intro i w b p B j C c d s;have u:∀(i:Nat) (b:Tj),(g++[⟨l,⟨none,0,0⟩,[]⟩])[i]? =some b->∀c,b.s.val.ownBlock=some c->g[i]? =some b:=fun i b j c d=>by
   by_cases D:i<g.length
   .rw[DN D]at j;exact j
   .rw[MN (by omega)]at j;obtain⟨z,q⟩:=kN.1 j;simp at z;have:i - g.length=0:=by omega
    simp only[this,cN]at q;subst q;rw[r]at d;cases d
  exact f.apart i w b p B (u i b j c d) (u w p C c s) c d s
 .intro b a e h c d F;rcases fN.1 a with a|a
  .exact f.foot b a e h c d (aY.1 F)
  .simp only[eN]at a;subst a;cases h
 .intro b a c d;rcases fN.1 a with a|a
  .exact f.msb b a c d
  .simp only[eN]at a;subst a;rw[r]at d;cases d
 .intro b a;rcases fN.1 a with a|a
  .exact f.cnt b a
  .simp only[eN]at a;subst a;exact nN _
 .rw[rN,List.nodup_append];refine⟨f.kd,by simp,?_⟩;intro e h J v b;simp only[ZM,dN,eN]at v;subst v;subst b;exact G h
theorem Oj.push{p O v:World}{r o N l:Nat}{j:List Tj}{b:Tj}{m:Nd}{q:dj}(g:Oj p r (some o) j N)(y:j[l]? =some b)(X:r<p.heap.size)(W:o<p.heap.size)(K:uq p m)(L:∀a,Sq m a->¬Bj r (some o) j a)
  (V:O.ownsRow 0 138 1 q.val (b.ns.length+1) (b.ns.map (fun s=>Cj s.b)++[Cj m.b]))(Q:bj (fun a=>b.s.val.ownBlock=some a) p O)(T:q.val.ownBlock=b.s.val.ownBlock\/q.val.ownBlock=some p.heap.size)
  (I:bj (fun a=>a=o) O v)(S:IX v (some o) (j.set l ⟨b.d,q,b.ns++[m]⟩)):
  Oj v r (some o) (j.set l ⟨b.d,q,b.ns++[m]⟩) (N+1)/\uq v m/\(∀a,Sq m a->¬Bj r (some o) (j.set l ⟨b.d,q,b.ns++[m]⟩) a)/\(∀a,Bj r (some o) (j.set l ⟨b.d,q,b.ns++[m]⟩) a->a<p.heap.size->Bj r (some o) j a)/\bj (Bj r (some o) j) p v:=by
 have t:b∈j:=mN y;have E:=(kN.1 y).1;have u:∀c∈j.set l ⟨b.d,q,b.ns++[m]⟩,(∃i,i≠l/\j[i]? =some c)\/c=⟨b.d,q,b.ns++[m]⟩:=fun c k=>by
  obtain⟨i,f⟩:=yaj k;by_cases n:l=i
  .subst n;rw[Caj E]at f;exact RM (lN f).symm
  .rw[Oaj n]at f;exact SM ⟨i,fun c=>n c.symm,f⟩
 have D:bj (Bj r (some o) j) p v:=(Q.mono (fun a _ e=>RM (RM ⟨b,t,e⟩))).trans (I.mono (fun a _ e=>RM (SM (by rw[e]))));have C:∀a,q.val.ownBlock=some a->b.s.val.ownBlock=some a\/a=p.heap.size:=fun a e=>by
  rcases T with d|d
  .exact SM (d▸e)
  .rw[d]at e;exact RM (lN e).symm
 have J:∀a,Bj r (some o) (j.set l ⟨b.d,q,b.ns++[m]⟩) a->Bj r (some o) j a\/a=p.heap.size:=fun a e=>by
  rcases e with d|d|⟨c,k,d⟩
  .exact SM (SM d)
  .exact SM (RM (SM d))
  .rcases u c k with⟨i,_,f⟩|rfl
   .exact SM (RM (RM ⟨c,mN f,d⟩))
   .rcases C a d with H|H
    .exact SM (RM (RM ⟨b,t,H⟩))
    .exact RM H
 have R:uq v m:=K.frame D L;refine⟨⟨S,?_,?_,?_,?_,?_,?_,?_,?_⟩,R,?_,?_,D⟩
 .intro c k;rcases u c k with⟨i,_,f⟩|rfl
  .exact g.d8 c (mN f)
  .exact g.d8 b t
 .intro c k;rcases u c k with⟨i,n,f⟩|rfl
  .have x:=ij (g.own c (mN f)) Q (fun a e z=>g.apart i l c b n f y a e z);exact ij x I (fun a e A=>(g.msb c (mN f) a e).2 (by rw[A]))
  .have x:=ij V I (fun a e A=>by
    rcases C a e with d|d
    .exact(g.msb b t a d).2 (by rw[A])
    .omega)
   simpa using x
 .intro c k s h;rcases u c k with⟨i,n,f⟩|rfl
  .exact(g.nodes c (mN f) s h).frame D (g.foot c (mN f) s h)
  .rcases fN.1 h with h|h
   .exact(g.nodes b t s h).frame D (g.foot b t s h)
   .simp only[eN]at h;subst h;exact R
 .intro i M c G F f w a e z;by_cases x:l=i
  .subst x;rw[Caj E]at f;rw[Oaj F]at w;have:=(lN f).symm;subst this;rcases C a e with d|d
   .exact g.apart l M b G F y w a d z
   .have:=((g.own G (mN w)).lt a z).2;omega
  .rw[Oaj x]at f;by_cases P:l=M
   .subst P;rw[Caj E]at w;have:=(lN w).symm;subst this;rcases C a z with d|d
    .exact g.apart i l c b F f y a e d
    .have:=((g.own c (mN f)).lt a e).2;omega
   .rw[Oaj P]at w;exact g.apart i M c G F f w a e z
 .intro c k s h a e B;rcases J a B with d|d
  .rcases u c k with⟨i,n,f⟩|rfl
   .exact g.foot c (mN f) s h a e d
   .rcases fN.1 h with h|h
    .exact g.foot b t s h a e d
    .simp only[eN]at h;subst h;exact L a e d
  .have U:a<p.heap.size:=by
    rcases u c k with⟨i,n,f⟩|rfl
    .exact(g.nodes c (mN f) s h).lt a e
    .rcases fN.1 h with h|h
     .exact(g.nodes b t s h).lt a e
     .simp only[eN]at h;subst h;exact K.lt a e
   omega
 .intro c k a e;rcases u c k with⟨i,n,f⟩|rfl
  .exact g.msb c (mN f) a e
  .rcases C a e with d|d
   .exact g.msb b t a d
   .exact⟨by omega,fun A=>by have:=lN A;omega⟩
 .intro c k;rcases u c k with⟨i,n,f⟩|rfl
  .have:=g.cnt c (mN f);omega
  .have:=g.cnt b t;simp;omega
 .have:(j.set l ⟨b.d,q,b.ns++[m]⟩).map (·.d)=j.map (·.d):=by
   apply Taj
   intro i;rw[zN,zN];by_cases n:l=i
   .subst n;rw[Caj E,y];rfl
   .rw[Oaj n]
  rw[this];exact g.kd
 .intro a e B;rcases J a B with d|d
  .exact L a e d
  .have:=K.lt a e;omega
 .intro a B U;rcases J a B with d|d
  .exact d
  .omega
end Go.Proofs.YtekegfbjbainhaaGreat
