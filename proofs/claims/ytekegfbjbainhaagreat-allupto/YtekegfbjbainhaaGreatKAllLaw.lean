/-
  ALL, where what it reads is of bulk at most 1048576: for every such script 'cairnlaw.All' returns true (whatever stores the script makes, whatever it puts, deletes, commits, asks proofs and paths of, and whatever bytes, heads and paths it has checked, its own or the document's, turned or not: Digest, New, Put, Delete, Commit, Prove, ProveRange, Included, Extended, Check, CheckRange, CheckIncluded and CheckExtended of the program answer as the document's do, in every order; what was lent comes back as it was; what came out stays its owner's), and what was handed in reads as it did.
  Conditions: none beyond the form's own.
-/
import Derived.Test.YtekegfbjbainhaaGreatKLog29
import Derived.Test.YtekegfbjbainhaaGreatKJoin41
import Derived.JoinedCond
import Derived.Deep.CondSized
set_option maxRecDepth 100000
set_option linter.unusedVariables false
set_option linter.unusedSimpArgs false
namespace Go.Proofs.YtekegfbjbainhaaGreat
open Go.ChangeShapes Go.WideShapes Go.ChangeAt Go.RowKit Go.Deep
theorem Tryz.ownS:ownKnob Tryz.prog.godebug=none:=by kernel_rfl
theorem Tryz.laidOutS:laidOutB Tryz.prog=true:=by kernel_rfl
theorem TK{b:Int}(a:(Lit.int .i64 b).wf=true): -9223372036854775808<=b/\b<=9223372036854775807:=by
 simp only[Lit.wf,Daj,decide_eq_true_eq]at a;have c:IntKind.i64.min= -9223372036854775808:=by decide
 have d:IntKind.i64.max=9223372036854775807:=by decide
 rw[c,d]at a;exact a
section
variable {H:Type} {enc:TypeId×Value->H} {fuel:Nat}
theorem zH{c:DataW H}{b:List (DataW H)}(d:c∈b):Rows.uptoBulk c<=Rows.uptoBulkAll b:=by
 induction b with
 |nil=>cases d
 |cons g f e=>
  simp only[Rows.uptoBulkAll];cases IN.1 d with
  |inl a=>subst a;omega
  |inr a=>have:=e a;omega
theorem UK:∀(a:List (DataW H)),(∀b∈a,2<=Rows.uptoBulk b)->a.length*2<=Rows.uptoBulkAll a
 |[],_=>by simp
 |b::a,c=>by
  have f:=c b (by simp);have g:=UK a (fun e d=>c e (by simp[d]));simp only[Rows.uptoBulkAll,uN];omega
theorem VW{j:World}{m:Option Addr}{c v:Nat}{n:DataW H}{J:List MemPlace}(w:DataW.trod enc Tryz.prog j 0 (fun _=>true) true fuel 22 [.slice m c v]=some (n,J))
  (z:Rows.uptoBulk n<=1048576){d:Nat->Fy}(G:lJ j m c d):c<=524288/\∀a,a<c->(d a).u.size<=1048576:=by
 rcases open_slice Tryz.underlying22 w with⟨g,_⟩|⟨u,a1,M,a2,a4,f,K,g,_,V,Y,D,t,q⟩
 .simp only[waj,Value.slice.injEq,and_true]at g;obtain⟨rfl,rfl,rfl⟩:=g;exact⟨nN _,fun a b=>absurd b (wN _)⟩
 simp only[waj,Value.slice.injEq,and_true]at g;obtain⟨rfl,rfl,rfl⟩:=g;simp only[YN]at t;obtain⟨rfl,rfl⟩:=t;simp only[Rows.uptoBulk]at z;rw[Tryz.cells40]at q;have r:∀a,a<c->2<=Rows.uptoBulk (f a)/\(d a).u.size<=Rows.uptoBulk (f a):=by
  intro a b;obtain⟨N,k,I⟩:=q a (by rw[D];simp;omega);obtain⟨i,P,Q,R,a3,a5,rfl,h,a8,a6,a7,wc,W,X,Z⟩:=kU I;have A:∀e l,i.cells[e]? =some l->j.cell? ((u.add (a*24)).add e)=some l:=fun e l s=>by
   unfold World.cells? at k;rw[if_pos (nN _)]at k;have C:e<24:=(kN.1 s).1;have:=mapM_some_get k e e (by simp[C]);rw[this];exact s
  obtain⟨L,a0,p,_,F,_⟩:=G a b;simp only[yN]at p;subst p;have o:=A 6 (.string i.u) rfl;rw[mx,mx]at o;have y:=F 6 (.string (d a).u) rfl;have B:i.u=(d a).u:=by
   have:=o.symm.trans y;simpa using this
  simp only at h;rw[h];simp only[Rows.uptoBulk,Rows.uptoBulkAll];have S:i.u.data.toList.length=(d a).u.size:=by rw[Raj,B];rfl
  omega
 have E:∀a,a<c->f a∈(List.range c).map f:=fun a b=>vN.2 ⟨a,List.mem_range.2 b,rfl⟩;have x:=UK ((List.range c).map f) (fun O h=>by
  obtain⟨a,b,rfl⟩:=vN.1 h;exact(r a (List.mem_range.1 b)).1)
 rw[FN,List.length_range]at x;refine⟨by omega,fun a b=>?_⟩;have T:=(r a b).2;have U:=zH (E a b);omega
end
theorem VK(a:Fy)(b:a.kind=3\/a.kind=4\/a.kind=5)(g:a.s.size<=140737488351232)(h:a.t.size<=140737488351232):qX a.cells:=by
 intro f e c d;rcases b with b|b|b
 .exact QU c a.cells a.b a.s a.t f e d (by rw[<-b];rfl) rfl rfl rfl g h
 .exact PU c a.cells a.b a.s f e d (by rw[<-b];rfl) rfl rfl g
 .by_cases i:c.tds.length<40
  .exact uY c a.cells f e d (by rw[<-b];rfl) i
  .exact TX c a.cells f e d (by rw[<-b];rfl) (by have:=d.t40;omega)
theorem CM:rV:=fun a u t k f j g n p o q b c d v=>by
 obtain⟨h,i,e,r,l,m,_,_,_⟩:=v;by_cases s:0<e.length
 .exact TW a.cells a.a a.b a.c e h i u t k f j g n p o (by rw[<-q];rfl) rfl rfl rfl (by rw[<-r];rfl) b.1 b.2 c.1 c.2 d.1 d.2 l m s
 .exact SW a.cells a.a a.b a.c e h i u t k f j g n p o (by rw[<-q];rfl) rfl rfl rfl (by rw[<-r];rfl) b.1 b.2 c.1 c.2 d.1 d.2 l m s
theorem RF(z:Os)(Z:z.Started)(H:Type)(enc:TypeId×Value->H)(E:Stop.Interp):
  ReturnsInHanded {} Tryz.checked z 8 .any ((Rows.OpenSpec.upto Rows.allSpec).pre6 enc Tryz.prog Tryz.f8 Rows.allUptoRow.domain false) (((Rows.OpenSpec.upto Rows.allSpec).at E).post enc Tryz.prog Tryz.f8 false true false false):=by
 refine returnsInHanded_of_cond_sized (C:=Tryz.checked) (s:=Rows.OpenSpec.upto Rows.allSpec) (k:=Rows.uptoSmall) rfl Tryz.ownS Z (by kernel_rfl) Tryz.func8
  (OpenSpec.witness (enc:=enc) (C:=Tryz.checked) (s:=Rows.OpenSpec.upto Rows.allSpec) (k:=Rows.uptoSmall) rfl false ⟨#[],#[.slice none 0 0],[]⟩ 8 (by kernel_rfl) (by kernel_rfl) (by kernel_rfl) (x:=([.nil],[],[])) (by kernel_rfl) rfl (by kernel_rfl)) ?_
 intro c G args g K a3 u m _ Q q _;have p:(DataW.weightsEach Tryz.prog (Tryz.f8.params.toList++Rows.allSpec.plain.varTypes Tryz.prog) (g++K)).all (·<=reachBytes)=true:=q;have r:∀(v:Nat) B D,Tryz.f8.params[v]? =some B->args[v]? =some D->Value.okWide Tryz.prog c .any G B D:=u;have N:=m;obtain⟨A,a6,l,M,rfl,_,_⟩:=m;have i:DataW.TrodAll enc Tryz.prog c 0 (fun _=>true) true Tryz.f8.params.toList args.toList g A:=l;rw[Tryz.params8]at i r p;obtain⟨a0,f,rfl,rfl,h⟩:=trodAll_one i;obtain⟨rfl,rfl⟩:=trodVars_none M;obtain⟨F,W,I,rfl⟩:=okWide_slice Tryz.underlying22 (r 0 22 a0 rfl rfl);have w:=h;have X:∀a1∈A,a1.block<c.heap.size:=by obtain⟨Y,S⟩:=w;exact DataW.trod_lt Y _ _ _ S
 obtain⟨fuel,n⟩:=h;have O:Rows.uptoBulk f<=1048576:=by
  have U:Rows.uptoBulkAll ([f]++[])<=1048576:=of_decide_eq_true Q;simp only[XN,Rows.uptoBulkAll]at U;omega
 obtain⟨J,o,a5,d⟩:=rW n (fun y T=>of_decide_eq_true (List.all_eq_true.1 p y (DataW.weights_mem_each (j:=0) (t:=22) rfl rfl y T)));obtain⟨R,V⟩:=VW n O o;clear l u q;refine(BM CM F W I J c R o (fun b a=>⟨TK (d b a).2.1,TK (d b a).2.2.1,TK (d b a).2.2.2.1,V b a,nH (d b a)⟩) VK).mono fun a4 a2 ⟨P,e⟩=>?_;subst P;exact⟨_,rfl,_,_,_,[],_,[],N,trodAll_mk1 (shut_bool Tryz.underlying4 _),trodAll_mk1 (Below.trod Tryz.laidOutS (by kernel_rfl) (of_decide_eq_true (by kernel_rfl)) w e X),rfl,e.frame _,fun L=>by cases L⟩
theorem all_holds:Rows.AllUptoSaid:=
 OpenClaim.holds_of_cond 8 Tryz.f8 rfl rfl rfl rfl rfl rfl rfl ⟨rfl,rfl,rfl,rfl,rfl⟩ rfl rfl rfl rfl rfl (by kernel_rfl) Tryz.func8 (by kernel_rfl)
  (of_decide_eq_true (by kernel_rfl)) (by unfold Func.isWrapper;first|(rw[if_pos (by decide+kernel)];kernel_rfl)|(rw[if_neg (by decide+kernel)];exact⟨rfl,rfl⟩))
  (fun b c H enc _ a=>RF b c H enc a)
#print axioms all_holds
end Go.Proofs.YtekegfbjbainhaaGreat
