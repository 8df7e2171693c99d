import Derived.Test.YtekegfbjbainhaaGreatKJoin29
import Derived.Laws.CopyRow
import Derived.Deep.WholeRow
import Derived.Deep.RegionHeld3
set_option maxRecDepth 100000
set_option maxHeartbeats 1600000
set_option linter.unusedVariables false
set_option linter.unusedSimpArgs false
namespace Go.Proofs.YtekegfbjbainhaaGreat
open Go.RowKit
attribute [local go_sem↓] Go.wp_at_zero Go.wp_at_succ
def Pw:List UInt8:=[179,255,255,77,0,0,0,0]
def wK:List UInt8:=[178,255,255,77,0,0,0,0]
theorem RG(a:World):CP 101 #[.int .i64 (-77)] a fun b c=>b=.returned (dV Pw)/\Below a.heap.size a c:=by
 go_enter Tryz.func101,Tryz.ntmps101;go_wp2;go_returns;exact⟨rfl,by repeat' (first|(with_reducible exact VM _ _)|(with_reducible refine AN ?_)|(with_reducible refine faj ?_ ?_ _)|(with_reducible refine Below.setCell ?_ ?_ _)|omega|simp)⟩
theorem SG(a:World):CP 101 #[.int .i64 (-78)] a fun b c=>b=.returned (dV wK)/\Below a.heap.size a c:=by
 go_enter Tryz.func101,Tryz.ntmps101;go_wp2;go_returns;exact⟨rfl,by repeat' (first|(with_reducible exact VM _ _)|(with_reducible refine AN ?_)|(with_reducible refine faj ?_ ?_ _)|(with_reducible refine Below.setCell ?_ ?_ _)|omega|simp)⟩
theorem sQ{o:Array Oper}{rest:List Oper}{h:Oper}{f:Act}{e:World}{m:Exit->Act->World->Prop}(r:h.guard=none)(k l:Operand)(t:h.op=.store 36 k l)
  (b a:Nat)(u:f.eval k=.pointer (some ⟨b,a,none⟩))(c:List UInt8)(g:c.length=8)(v:f.eval l=dV c){p:Nat}{d:List Value}(n:aj e b p d)(x:a+8<=d.length)
  (q:∀i,aj i b p (d.take a++c.map fj++d.drop (a+8))->bj (fun j=>j=b) e i->i.heap.size=e.heap.size->wpList Tryz.prog o m rest (f.put h.dst undef) i):wpList Tryz.prog o m (h::rest) f e:=by
 refine wpList_store_mid r 36 k l t b a (c.map fj).toArray u v ?_ (by simpa[g]using Tryz.infoDig) (all_oneCell_toArray (gx c)) ?_
 .intro w s;have:=n.there d.length rfl (a+w) (by simp[g]at s;omega);simpa using this
 .refine q _ ?_ (bj.setCells (S:=fun j=>j=b) rfl _ _ _ (bj.refl _ _)) (Cx _ _ _ _);have:=aj.setCells (c.map fj) a e d n (by simp[g];omega);simpa[g]using this
theorem zY{P:Program}(b:World)(l B C i:TypeId)(e d h p:Nat)(g:Addr)(k A:Nat)(c:Array Value)(o:TypeId)(a:List Value)
  (y:P.underlying l=some (.slice i))(m:(P.info? i).map (·.size)=some 8)(s:b.heap[e]? =some (.cells c o (0,0)))(v:a.length=Nat.min k h*8)
  (w:∀n f,a[n]? =some f->b.cell? (g.add n)=some f)(r:d+a.length<=c.size)(q:∀f∈a,f.oneCell'=true):
  (Builtin.copy_ #[l,B] C #[.slice (some ⟨e,d,none⟩) h p,.slice (some g) k A]).run P b=.ok (goInt (Nat.min k h)) (b.setRow e (c.toList.take d++a++c.toList.drop (d+a.length)).toArray):=by
 have u:=run_loadCells_list (P:=P) b g a w;have x:=run_storeCells_at P e d o a 0 c b s (by simpa using r) q;cases j:P.info? i with
 |none=>simp[j]at m
 |some z=>
  have t:z.size=8:=by simpa[j]using m
  simp[Builtin.copy_,run_underlying y,Builtin.lenOf,Builtin.firstCells,sizeOf,typeInfo,j,t,<-v,u,x]
theorem PM(b:Nat):madeCells zO (b*8)=(List.replicate (b*8) (.int .u8 0)).toArray:=by
 apply Array.ext
 .simp[size_madeCells]
 .intro a e f;have c:a%8<8:=Nat.mod_lt _ (by omega);simp only[madeCells,Array.getElem_map,Array.getElem_range,List.getElem_toArray,List.getElem_replicate];show(zO:Array Value)[a%8]! =.int .u8 0;generalize a%8=d at*
  match d,c with
  |0,_=>rfl
  |1,_=>rfl
  |2,_=>rfl
  |3,_=>rfl
  |4,_=>rfl
  |5,_=>rfl
  |6,_=>rfl
  |7,_=>rfl
def Sy(a:List UInt8)(b:Nat):List Value:=qj (List.replicate b a)
theorem lY(a:List UInt8)(b:Nat):Sy a (b+1)=Sy a b++a.map fj:=by
 unfold Sy qj;rw[List.replicate_succ',KN];simp
theorem fx(a:List UInt8)(c:a.length=8)(b:Nat):(Sy a b).length=b*8:=by
 unfold Sy;rw[mq _ (fun e d=>by rw[(List.mem_replicate.1 d).2];exact c)];simp
def my(b:List (List UInt8))(a:Nat):List Value:=qj b++Sy Pw a++List.replicate ((8 - a)*8) (.int .u8 0)
def Dk(a:List (List UInt8)):List Value:=qj a++Sy Pw 8
theorem xK(a:List (List UInt8))(d:∀c∈a,c.length=8)(b:Nat)(e:b<=8):(my a b).length=(a.length+8)*8:=by
 unfold my;rw[XM,XM,mq _ d,fx _ rfl,List.length_replicate];omega
theorem TG(b:List (List UInt8))(d:∀c∈b,c.length=8)(a:Nat)(f:a<8):(my b a).take ((b.length+a)*8)++Pw.map fj++(my b a).drop ((b.length+a)*8+8)=my b (a+1):=by
 have e:(qj b++Sy Pw a).length=(b.length+a)*8:=by rw[XM,mq _ d,fx _ rfl];omega
 unfold my;rw[fbj (by omega),aaj (by omega),List.drop_append,List.drop_of_length_le (by omega),ON,e,lY,show(b.length+a)*8+8 - (b.length+a)*8=8 by omega,List.drop_replicate,show(8 - a)*8 - 8=(8 - (a+1))*8 by omega];simp only[NN]
theorem nM(a:List (List UInt8)):my a 8=Dk a:=by simp[my,Dk]
theorem EQ(a:List (List UInt8))(h:Addr)(k:Nat)(b:World)(l:tq b (some h) a)(aa:a.length<=17592186044416):
  CP 72 #[.slice (some h) a.length k] b fun e F=>e=.returned (.slice (some ⟨b.heap.size,0,none⟩) a.length (a.length+8))/\aj F b.heap.size 36 (Dk a)/\Below b.heap.size b F:=by
 obtain⟨a5,V,a2,a3,a4⟩:=info_parts Tryz.infoDigP;have a0:∀i:World,(Instr.makeSlice 41 (.int .i64 ((a.length:Int)+8)) (.int .i64 ((a.length:Int)+8))).run Tryz.prog i=.ok (.slice (some ⟨i.heap.size,0,none⟩) (a.length+8) (a.length+8)) (i.alloc (.cells (List.replicate ((a.length+8)*8) (.int .u8 0)).toArray 36)):=fun i=>by
  have f:=run_make (P:=Tryz.prog) i 41 36 a5 _ Tryz.underlying41 V a2 .i64 .i64 ((a.length:Int)+8) ((a.length:Int)+8) (by omega) (Int.le_refl _) (by rw[a4];omega) (by omega);have e:((a.length:Int)+8).toNat=a.length+8:=by omega
  rw[e,a3]at f;rw[f]
  congr 4
  exact PM (a.length+8)
 have ac:=fun b=>run_eql_slice_nil (P:=Tryz.prog) b 41 36 (some h) a.length k Tryz.underlying41;have r:=mq a l.2;have C:aj (b.alloc (.cells (List.replicate ((a.length+8)*8) (.int .u8 0)).toArray 36)) b.heap.size 36 (List.replicate ((a.length+8)*8) (.int .u8 0)):=aj.new b _ _;obtain⟨j,S,a1,Q⟩:∃j:World,(Builtin.copy_ #[41,41] 3 #[Value.slice (some ⟨b.heap.size,0,none⟩) (a.length+8) (a.length+8),Value.slice (some h) a.length k]).run Tryz.prog
   (b.alloc (.cells (List.replicate ((a.length+8)*8) (.int .u8 0)).toArray 36))=.ok (goInt a.length) j/\aj j b.heap.size 36 (my a 0)/\Below b.heap.size b j:=by
  have z:Nat.min a.length (a.length+8)=a.length:=by simp[Nat.min_def]
  have f:=zY (P:=Tryz.prog) (b.alloc (.cells (List.replicate ((a.length+8)*8) (.int .u8 0)).toArray 36)) 41 41 3 36 b.heap.size 0 (a.length+8) (a.length+8) h a.length k (List.replicate ((a.length+8)*8) (.int .u8 0)).toArray 36 (qj a) Tryz.underlying41 Tryz.infoDig (by exact C) (by rw[z];exact r) (fun D a6 g=>by
   obtain⟨y,g⟩:=kN.1 g;obtain⟨a7,ae,N,O,R⟩:=l.1 D y;cases N;rw[mx,World.cell?_alloc_lt _ _ _ (by exact O),R,g]) (by simp;omega) (fun a6 g=>by
   unfold qj at g;obtain⟨x,_,T⟩:=Eaj.1 g;obtain⟨af,_,rfl⟩:=vN.1 T;rfl)
  rw[z,World.setRow_alloc_new]at f;have e:((List.replicate ((a.length+8)*8) (.int .u8 0)).toArray.toList.take 0++qj a++(List.replicate ((a.length+8)*8) (.int .u8 0)).toArray.toList.drop (0+(qj a).length))=my a 0:=by
   rw[r];unfold my Sy;simp only[List.take_zero,ON,sN,List.drop_replicate,List.replicate_zero,qj,List.flatMap_nil,XN];rw[show(a.length+8)*8 - a.length*8=(8 - 0)*8 by omega]
  rw[e]at f;exact⟨_,f,aj.new b _ _,tO⟩
 obtain⟨w,p⟩:∃w:Array Value,w=(List.replicate ((a.length+8)*8) (.int .u8 0)).toArray:=⟨_,rfl⟩;rw[<-p]at S;simp only[<-p]at a0;have u:Hd (∀x∈a,x.length=8):=l.2;have ab:(a.length:Int)<=17592186044416:=by omega
 clear l C r p;generalize A:a.length=d at*;have v:Hd (a.length=d):=A;clear A;go_enter Tryz.func72,Tryz.ntmps72;go_wp2
 go_loopw [4] (fun s wr=>∃c:Nat,c<=8/\s=.int .i64 ((d:Int)+c)/\Hd (aj wr b.heap.size 36 (my a c))/\Hd (BB b wr)) (fun s _=>d+8 - (intOf s).toNat)
 case atStart=>exact⟨0,by omega,by simp,a1,Q⟩
 case round=>
  obtain⟨c,W,rfl,o,m⟩:=hrel;by_cases Y:c<8
  .have Z:(d:Int)+c<d+8:=by omega
   have X:(d:Int)+c=((d+c:Nat):Int):=by omega
   have a9:((d+c:Nat):Int)<d+8:=by omega
   rw[X];generalize B:d+c=E at*;have n:Hd (d+c=E):=B;clear B;go_wp2_with fail;refine(RG _).mono ?_;rintro e G ⟨rfl,q⟩;have K:Hd (aj G b.heap.size 36 (my a c)):=aj.below o.o o.o.lt q;have t:Hd (BB b G):=m.o.trans (q.mono m.o.size);clear q;go_wp2_with (refine sQ (by rfl) (.tmp 25) (.tmp 24) (by rfl) b.heap.size (E*8) (by first|rfl|(show Value.pointer _=Value.pointer _;simp)) Pw rfl (by rfl) K.o (by rw[xK a u.o c W,v.o];have:=n.o;omega) ?_;intro H M U ad);have L:Hd (aj H b.heap.size 36 (my a (c+1))):=by
    rw[<-TG a u.o c Y,v.o,n.o];exact M
   have I:Hd (BB b H):=t.o.trans (U.below t.o.size (fun D y=>by omega));have a8:=n.o;refine⟨⟨c+1,by omega,by go_num,L,I⟩,by simp[intOf];omega⟩
  .obtain rfl:c=8:=by omega
   have J:Hd (my a 8=Dk a):=nM a;have Z:¬(d:Int)+8<d+8:=by omega
   go_wp2;go_returns;exact⟨rfl,by rw[<-J.o];exact o.o,m.o⟩
theorem lZ(a:World):CP 72 #[.slice none 0 0] a fun b c=>b=.returned (.slice none 0 0)/\c=a:=by
 have d:=fun a=>run_eql_slice_nil (P:=Tryz.prog) a 41 36 none 0 0 Tryz.underlying41;go_enter Tryz.func72,Tryz.ntmps72;go_wp2;go_returns;exact⟨rfl,rfl⟩
theorem mZ(a:World):CP 74 #[.slice none 0 0,.slice none 0 0] a fun b c=>b=.returned (.bool true)/\c=a:=by
 have d:=fun a=>run_eql_slice_nil (P:=Tryz.prog) a 41 36 none 0 0 Tryz.underlying41;go_enter Tryz.func74,Tryz.ntmps74;go_wp2;go_ret;exact⟨rfl,rfl⟩
def dx(b:List (List UInt8))(a:Nat):List Value:=Sy wK a++(Dk b).drop (a*8)
theorem yK(a:List (List UInt8))(c:∀b∈a,b.length=8):(Dk a).length=(a.length+8)*8:=by
 unfold Dk;rw[XM,mq _ c,fx _ rfl];omega
theorem nZ(a:List (List UInt8))(d:∀c∈a,c.length=8)(b:Nat)(e:b<=a.length+8):(dx a b).length=(a.length+8)*8:=by
 unfold dx;rw[XM,fx _ rfl,oN,yK _ d];omega
theorem mY(b:List (List UInt8))(e:∀c∈b,c.length=8)(a:Nat)(f:a<b.length+8):(dx b a).take (a*8)++wK.map fj++(dx b a).drop (a*8+8)=dx b (a+1):=by
 have d:(Sy wK a).length=a*8:=fx _ rfl a;unfold dx;rw[fbj (by omega),aaj (by omega),List.drop_append,List.drop_of_length_le (by omega),ON,d,lY,List.drop_drop,show a*8+(a*8+8 - a*8)=(a+1)*8 by omega]
theorem Nz(c:List (List UInt8))(g:∀e∈c,e.length=8)(a b:Nat)(l:a<c.length+8)(m:c.length<=a)(j:b<8):(dx c a)[a*8+b]? =(Pw.map fj)[b]? :=by
 have h:(Sy wK a).length=a*8:=fx _ rfl a;have i:=mq c g;unfold dx;rw[MN (by omega),h,show a*8+b - a*8=b by omega,oaj];unfold Dk;rw[MN (by omega),i,show a*8+b - c.length*8=(a - c.length)*8+b by omega];obtain⟨d,k,n⟩:∃d,a - c.length=d/\d<8:=⟨_,rfl,by omega⟩;rw[k];have f:Sy Pw 8=Sy Pw d++(Pw.map fj++Sy Pw (7 - d)):=by
  unfold Sy qj;rw[show Pw.map fj=[Pw].flatMap (·.map fj)by simp,<-KN,<-KN]
  congr 1
  rw[show([Pw]:List (List UInt8))=List.replicate 1 Pw from rfl,List.replicate_append_replicate,List.replicate_append_replicate]
  congr 1;omega
 rw[f,MN (by rw[fx _ rfl];omega),fx _ rfl,show d*8+b - d*8=b by omega,DN (by simpa[Pw]using j)]
theorem FQ(c:List (List UInt8))(B:Addr)(b:Nat)(F:Nat)(g:World)(s:tq g (some B) c)(a9:c.length<=17592186044416)(t:aj g b 36 (Dk c)):
  CP 74 #[.slice (some ⟨b,0,none⟩) c.length (c.length+8),.slice (some B) c.length F] g fun p W=>p=.returned (.bool true)/\bj (fun a=>a=b) g W:=by
 have ac:=fun g=>run_eql_slice_nil (P:=Tryz.prog) g 41 36 (some ⟨b,0,none⟩) c.length (c.length+8) Tryz.underlying41;have G:tq g (some ⟨b,0,none⟩) c:=⟨fun q H=>⟨b,0,rfl,t.lt,by
  rw[sN,aj.cell? t q];unfold Dk;rw[DN H,UM H]⟩,s.2⟩
 have N:Hd (Calls _ _ _ _ _):=mJ c (some ⟨b,0,none⟩) (some B) (c.length+8) F g G s (by omega);have e:Hd (∀Q∈c,Q.length=8):=s.2;have aa:(c.length:Int)<=17592186044416:=by omega
 have L:Hd (aj g b 36 (dx c 0)):=by
  unfold Hd dx Sy;simpa[qj]using t
 have a6:∀j,(Op.equalIn 10000 36 (.agg #[.int .u8 179,.int .u8 255,.int .u8 255,.int .u8 77,.int .u8 0,.int .u8 0,.int .u8 0,.int .u8 0]) (.agg #[.int .u8 179,.int .u8 255,.int .u8 255,.int .u8 77,.int .u8 0,.int .u8 0,.int .u8 0,.int .u8 0])).run Tryz.prog j=.ok true j:=fun j=>yy 179 255 255 77 0 0 0 0 179 255 255 77 0 0 0 0 j;have O:Hd (dV Pw=.agg #[.int .u8 179,.int .u8 255,.int .u8 255,.int .u8 77,.int .u8 0,.int .u8 0,.int .u8 0,.int .u8 0]):=rfl;clear s G t;generalize I:c.length=n at*;have d:Hd (c.length=n):=I;clear I;go_enter Tryz.func74,Tryz.ntmps74;go_wp2_with fail;refine N.o.mono ?_;rintro p an ⟨rfl,ad,rfl⟩;go_wp2
 go_loopw [5,7] (fun V q wr=>∃a:Nat,a<=n+8/\q=.int .i64 a/\V=.bool true/\Hd (aj wr b 36 (dx c a))/\Hd (bj (fun f=>f=b) g wr)) (fun _ q _=>n+8 - (intOf q).toNat)
 case atStart=>exact⟨0,by omega,by simp,by simp,L.o,bj.of_below_all ⟨rfl,rfl,rfl,TM _,fun _ _=>rfl⟩⟩
 case round=>
  obtain⟨a,a7,rfl,rfl,l,v⟩:=hrel;by_cases ab:a<n+8
  .have T:(a:Int)<n+8:=by omega
   have a5:∀E,Hd (aj E b 36 (dx c a))->Hd (bj (fun f=>f=b) g E)->Hd (aj E b 36 (dx c a)):=fun _ k _=>k;by_cases a8:a<n
   .have R:(a:Int)<n:=by omega
    go_wp2;go_quiet (fail);go_wp2_with fail;refine(SG _).mono ?_;rintro p i ⟨rfl,h⟩;have z:Hd (aj i b 36 (dx c a)):=aj.past h (by exact l.o);have x:Hd (bj (fun f=>f=b) g i):=bj.inside v.o (bj.of_below_all (S:=fun f=>f=b) (w:=wr) ⟨h.os,h.tape,h.output,h.size,h.block⟩) (fun u _ k=>k);clear h;go_wp2_with (refine sQ (by rfl) (.tmp 44) (.tmp 43) (by rfl) b (a*8) (by first|rfl|(show Value.pointer _=Value.pointer _;simp)) wK rfl (by rfl) z.o (by rw[nZ c e.o a (by rw[d.o];omega),d.o];omega) ?_;intro r C D U);have A:Hd (aj r b 36 (dx c (a+1))):=by
     rw[<-mY c e.o a (by rw[d.o];omega)];exact C
    have y:Hd (bj (fun f=>f=b) g r):=bj.inside x.o D (fun u _ k=>k);refine⟨⟨a+1,by omega,by go_num,by simp,A,y⟩,by simp[intOf];omega⟩
   .have R:¬(a:Int)<n:=by omega
    have X:wr.cell? ⟨b,a*8,none⟩=some (.int .u8 179):=(aj.cell? l.o (a*8)).trans (Nz c e.o a 0 (by rw[d.o];omega) (by rw[d.o];omega) (by omega));have Y:wr.cell? ⟨b,a*8+1,none⟩=some (.int .u8 255):=(aj.cell? l.o (a*8+1)).trans (Nz c e.o a 1 (by rw[d.o];omega) (by rw[d.o];omega) (by omega));have Z:wr.cell? ⟨b,a*8+2,none⟩=some (.int .u8 255):=(aj.cell? l.o (a*8+2)).trans (Nz c e.o a 2 (by rw[d.o];omega) (by rw[d.o];omega) (by omega));have a0:wr.cell? ⟨b,a*8+3,none⟩=some (.int .u8 77):=(aj.cell? l.o (a*8+3)).trans (Nz c e.o a 3 (by rw[d.o];omega) (by rw[d.o];omega) (by omega));have a1:wr.cell? ⟨b,a*8+4,none⟩=some (.int .u8 0):=(aj.cell? l.o (a*8+4)).trans (Nz c e.o a 4 (by rw[d.o];omega) (by rw[d.o];omega) (by omega));have a2:wr.cell? ⟨b,a*8+5,none⟩=some (.int .u8 0):=(aj.cell? l.o (a*8+5)).trans (Nz c e.o a 5 (by rw[d.o];omega) (by rw[d.o];omega) (by omega));have a3:wr.cell? ⟨b,a*8+6,none⟩=some (.int .u8 0):=(aj.cell? l.o (a*8+6)).trans (Nz c e.o a 6 (by rw[d.o];omega) (by rw[d.o];omega) (by omega));have a4:wr.cell? ⟨b,a*8+7,none⟩=some (.int .u8 0):=(aj.cell? l.o (a*8+7)).trans (Nz c e.o a 7 (by rw[d.o];omega) (by rw[d.o];omega) (by omega));go_wp2
    go_region_held3 (fun j=>j.cell? ⟨b,a*8,none⟩=some (.int .u8 179)/\j.cell? ⟨b,a*8+1,none⟩=some (.int .u8 255)/\j.cell? ⟨b,a*8+2,none⟩=some (.int .u8 255)/\j.cell? ⟨b,a*8+3,none⟩=some (.int .u8 77)/\j.cell? ⟨b,a*8+4,none⟩=some (.int .u8 0)/\j.cell? ⟨b,a*8+5,none⟩=some (.int .u8 0)/\j.cell? ⟨b,a*8+6,none⟩=some (.int .u8 0)/\j.cell? ⟨b,a*8+7,none⟩=some (.int .u8 0)) (go_keep)
     ((go_at_call 101;refine(RG _).mono ?_;rintro p i ⟨rfl,h⟩;rw[O.o];have m:aj i b 36 (dx c a):=aj.past h (by exact l.o);have x:Hd (bj (fun f=>f=b) g i):=bj.inside v.o (bj.of_below_all (S:=fun f=>f=b) (w:=wr) ⟨h.os,h.tape,h.output,h.size,h.block⟩) (fun u _ k=>k);have ae:i.cell? ⟨b,a*8,none⟩=some (.int .u8 179):=(aj.cell? m (a*8)).trans (Nz c e.o a 0 (by rw[d.o];omega) (by rw[d.o];omega) (by omega));have af:i.cell? ⟨b,a*8+1,none⟩=some (.int .u8 255):=(aj.cell? m (a*8+1)).trans (Nz c e.o a 1 (by rw[d.o];omega) (by rw[d.o];omega) (by omega));have ag:i.cell? ⟨b,a*8+2,none⟩=some (.int .u8 255):=(aj.cell? m (a*8+2)).trans (Nz c e.o a 2 (by rw[d.o];omega) (by rw[d.o];omega) (by omega));have ah:i.cell? ⟨b,a*8+3,none⟩=some (.int .u8 77):=(aj.cell? m (a*8+3)).trans (Nz c e.o a 3 (by rw[d.o];omega) (by rw[d.o];omega) (by omega));have ai:i.cell? ⟨b,a*8+4,none⟩=some (.int .u8 0):=(aj.cell? m (a*8+4)).trans (Nz c e.o a 4 (by rw[d.o];omega) (by rw[d.o];omega) (by omega));have ak:i.cell? ⟨b,a*8+5,none⟩=some (.int .u8 0):=(aj.cell? m (a*8+5)).trans (Nz c e.o a 5 (by rw[d.o];omega) (by rw[d.o];omega) (by omega));have al:i.cell? ⟨b,a*8+6,none⟩=some (.int .u8 0):=(aj.cell? m (a*8+6)).trans (Nz c e.o a 6 (by rw[d.o];omega) (by rw[d.o];omega) (by omega));have am:i.cell? ⟨b,a*8+7,none⟩=some (.int .u8 0):=(aj.cell? m (a*8+7)).trans (Nz c e.o a 7 (by rw[d.o];omega) (by rw[d.o];omega) (by omega))))
    all_goals
     have z:Hd (aj i b 36 (dx c a)):=m;clear m h;go_wp2_with fail;refine(SG _).mono ?_;rintro p J ⟨rfl,o⟩;have M:Hd (aj J b 36 (dx c a)):=aj.past o (by exact z.o);have K:Hd (bj (fun f=>f=b) g J):=bj.inside x.o (bj.of_below_all (S:=fun f=>f=b) (w:=i) ⟨o.os,o.tape,o.output,o.size,o.block⟩) (fun u _ k=>k);clear o;go_wp2_with (refine sQ (by rfl) (.tmp 44) (.tmp 43) (by rfl) b (a*8) (by first|rfl|(show Value.pointer _=Value.pointer _;simp)) wK rfl (by rfl) M.o (by rw[nZ c e.o a (by rw[d.o];omega),d.o];omega) ?_;intro r C D U);have A:Hd (aj r b 36 (dx c (a+1))):=by
      rw[<-mY c e.o a (by rw[d.o];omega)];exact C
     have y:Hd (bj (fun f=>f=b) g r):=bj.inside K.o D (fun u _ k=>k);refine⟨⟨a+1,by omega,by go_num,by simp,A,y⟩,by simp[intOf];omega⟩
  .have T:¬(a:Int)<n+8:=by omega
   go_wp2;go_ret;exact⟨rfl,v.o⟩
theorem zK(b i:Int)(d c:List UInt8)(e:List (List UInt8))(u:Option Addr)(l:Nat)(a:World)(q:d.length=8)(p:c.length=8)(S:b<=9223372036854775807)(o:tq a u e)(R:e.length<=17592186044416)(Z:e.length<=l)(Y:l<=9223372036854775807)(W:(u=none/\e=[]/\l=0)\/∃v,u=some v):
  CP 38 #[Vj b d,.int .i64 i,dV c,.slice u e.length l] a fun g t=>g=.returned (.bool true)/\Below a.heap.size a t:=by
 have n:Below a.heap.size a ((a.alloc (.cells ((Value.int .i64 b::d.map fj).toArray) 98)).alloc (.cells (c.map fj).toArray 36)):=tO.alloc (by simp) _;have E:aj ((a.alloc (.cells ((Value.int .i64 b::d.map fj).toArray) 98)).alloc (.cells (c.map fj).toArray 36)) a.heap.size 98 (Value.int .i64 b::d.map fj):=(aj.new a _ _).alloc _;have H:aj ((a.alloc (.cells ((Value.int .i64 b::d.map fj).toArray) 98)).alloc (.cells (c.map fj).toArray 36)) (a.heap.size+1) 36 (c.map fj):=aj.new_at _ _ _ _ (by simp);have M:Hd (∀(f:World) (k:Option Addr) (h:Nat),tq f k e->e.length<=h->h<=9223372036854775807->CP 73 #[Vj b d,.int .i64 i,dV c,.slice k e.length h] f fun g t=>g=.returned (.bool (aJ b i d c e.reverse))/\Below f.heap.size f t):=fun f k h B C D=>by
  have r:=sG b i d c e.reverse k h f q p S (by rw[List.reverse_reverse];exact B) (by rw[Laj];exact C) D;rw[Laj]at r;exact r
 have L:Hd (∀(f:World) (k:Option Addr) (h:Nat),tq f k e->e.length<=h->h<=9223372036854775807->CP 75 #[Vj b d,.int .i64 i,dV c,.slice k e.length h] f fun g t=>g=.returned (.bool (aJ b i d c e.reverse))/\Below f.heap.size f t):=fun f k h B C D=>by
  have r:=wY b i d c e.reverse k h f q p S (by rw[List.reverse_reverse];exact B) (by rw[Laj];exact C) D;rw[Laj]at r;exact r
 generalize aJ b i d c e.reverse=T at*;rw[show Vj b d=.agg (Value.int .i64 b::d.map fj).toArray from rfl,show dV c=.agg (c.map fj).toArray from rfl];have a1:((a.alloc (.cells ((Value.int .i64 b::d.map fj).toArray) 98)).alloc (.cells (c.map fj).toArray 36)).heap.size=a.heap.size+1+1:=by simp
 rcases W with⟨rfl,rfl,rfl⟩|⟨v,rfl⟩
 .go_enter Tryz.func38,Tryz.ntmps38;go_wp2_with fail;refine(lZ _).mono ?_;rintro g J ⟨rfl,rfl⟩;go_wp2_with (first|(refine wpList_load_mid (by rfl) 98 (.tmp 4) (by rfl) a.heap.size 0 (by rfl) (Value.int .i64 b::d.map fj) _ (by exact E.range) Tryz.underlying98 (by rfl) (by simpa[q]using Tryz.sizeHead) ?_)|(refine wpList_load_mid (by rfl) 36 (.tmp 6) (by rfl) (a.heap.size+1) 0 (by rfl) (c.map fj) _ (by exact H.range) Tryz.underlying36 (by rfl) (by simpa[p]using Tryz.infoDig) ?_));refine(M.o _ none 0 (o.below n) (TM _) (by omega)).mono ?_;rintro g K ⟨rfl,j⟩;have m:Below a.heap.size a K:=n.trans (j.mono n.size);have w:=aj.past j E;have x:=aj.past j H;clear j;go_wp2_with fail;refine(mZ _).mono ?_;rintro g A ⟨rfl,rfl⟩;go_wp2_with (first|(refine wpList_load_mid (by rfl) 98 (.tmp 4) (by rfl) a.heap.size 0 (by rfl) (Value.int .i64 b::d.map fj) _ (by exact w.range) Tryz.underlying98 (by rfl) (by simpa[q]using Tryz.sizeHead) ?_)|(refine wpList_load_mid (by rfl) 36 (.tmp 6) (by rfl) (a.heap.size+1) 0 (by rfl) (c.map fj) _ (by exact x.range) Tryz.underlying36 (by rfl) (by simpa[p]using Tryz.infoDig) ?_));refine(L.o _ none 0 (o.below m) (TM _) (by omega)).mono ?_;rintro g a3 ⟨rfl,I⟩;go_wp2;go_ret;exact⟨by cases T<;>rfl,m.trans (I.mono m.size)⟩
 .go_enter Tryz.func38,Tryz.ntmps38;go_wp2_with fail;refine(EQ e v l _ (o.below n) R).mono ?_;rintro g J ⟨rfl,s,y⟩;have O:Below a.heap.size a J:=n.trans (y.mono n.size);have N:=aj.past y E;have P:=aj.past y H;have G:tq J (some ⟨((a.alloc (.cells ((Value.int .i64 b::d.map fj).toArray) 98)).alloc (.cells (c.map fj).toArray 36)).heap.size,0,none⟩) e:=⟨fun a2 Q=>⟨_,0,rfl,s.lt,by
   rw[sN,aj.cell? s a2];unfold Dk;rw[DN Q,UM Q]⟩,o.2⟩
  have X:=s.lt;clear y;rw[a1]at s G X;go_wp2_with (first|(refine wpList_load_mid (by rfl) 98 (.tmp 4) (by rfl) a.heap.size 0 (by rfl) (Value.int .i64 b::d.map fj) _ (by exact N.range) Tryz.underlying98 (by rfl) (by simpa[q]using Tryz.sizeHead) ?_)|(refine wpList_load_mid (by rfl) 36 (.tmp 6) (by rfl) (a.heap.size+1) 0 (by rfl) (c.map fj) _ (by exact P.range) Tryz.underlying36 (by rfl) (by simpa[p]using Tryz.infoDig) ?_));refine(M.o _ _ (e.length+8) (by exact G) (by omega) (by omega)).mono ?_;rintro g K ⟨rfl,j⟩;have m:Below a.heap.size a K:=O.trans (j.mono O.size);have w:=aj.past j N;have x:=aj.past j P;have a0:=aj.past j s;clear j G;go_wp2_with fail;refine(FQ e v _ l _ (o.below m) R (by exact a0)).mono ?_;rintro g A ⟨rfl,z⟩;have F:Below a.heap.size a A:=m.trans (z.below m.size (fun a5 a4=>by omega));have U:aj A a.heap.size 98 (Value.int .i64 b::d.map fj):=w.of_block (z.block _ w.lt (fun i=>by omega));have V:aj A (a.heap.size+1) 36 (c.map fj):=x.of_block (z.block _ x.lt (fun i=>by omega));clear z;go_wp2_with (first|(refine wpList_load_mid (by rfl) 98 (.tmp 4) (by rfl) a.heap.size 0 (by rfl) (Value.int .i64 b::d.map fj) _ (by exact U.range) Tryz.underlying98 (by rfl) (by simpa[q]using Tryz.sizeHead) ?_)|(refine wpList_load_mid (by rfl) 36 (.tmp 6) (by rfl) (a.heap.size+1) 0 (by rfl) (c.map fj) _ (by exact V.range) Tryz.underlying36 (by rfl) (by simpa[p]using Tryz.infoDig) ?_));refine(L.o _ _ l (o.below F) Z Y).mono ?_;rintro g a3 ⟨rfl,I⟩;go_wp2;go_ret;exact⟨by cases T<;>rfl,F.trans (I.mono F.size)⟩
def iV(b:Option (List UInt8×List UInt8))(c d:List UInt8):Bool:=match b with
 |none=>false
 |some a=>a.1==c&&a.2==d
def tQ(a c:Int)(b e:List UInt8)(d:List (List UInt8)):Bool:=if a<0\/c<a then false else if a=0 then d.length==0&&b==Aj []else iV (Xy a.toNat c.toNat true b d) b e
theorem FW(a b:Int)(c d:List UInt8)(f:Option Addr)(k g:Nat)(e:World)(i:c.length=8)(j:d.length=8)(n:a<0\/b<a):
  CP 77 #[Vj a c,Vj b d,.slice f k g] e fun l m=>l=.returned (.bool false)/\Below e.heap.size e m:=by
 obtain⟨q,r,s,t,u,v,w,x,rfl⟩:=uj c i;obtain⟨y,z,A,B,C,D,E,F,rfl⟩:=uj d j;unfold Vj fj;simp only[ZM,dN];by_cases h:a<0
 .go_enter Tryz.func77,Tryz.ntmps77;go_wp2;go_ret;exact⟨rfl,tO.alloc (by simp) _⟩
 .have o:b<a:=by omega
  have p:¬a<0:=h;go_enter Tryz.func77,Tryz.ntmps77;go_wp2;go_ret;exact⟨rfl,tO.alloc (by simp) _⟩
theorem AY(j:Int)(I L:List UInt8)(V:Option Addr)(w W:Nat)(a:World)(Y:I.length=8)(Z:L.length=8)(Q:0<=j)(ak:w<=9223372036854775807):
  CP 77 #[Vj 0 I,Vj j L,.slice V w W] a fun a0 M=>a0=.returned (.bool (w==0&&I==Aj []))/\Below a.heap.size a M:=by
 obtain⟨b,c,d,e,f,g,h,i,rfl⟩:=uj I Y;obtain⟨k,l,m,n,o,p,q,r,rfl⟩:=uj L Z;have an:¬j<0:=by omega
 have J:Hd (BB a ((a.alloc (.cells ((Value.int .i64 0::[b,c,d,e,f,g,h,i].map fj).toArray) 98)).alloc (.cells ((Value.int .i64 j::[k,l,m,n,o,p,q,r].map fj).toArray) 98))):=tO.alloc (by simp) _;by_cases X:w=0
 .subst X;obtain⟨x,y,z,A,B,C,D,E,K⟩:=uj (Aj []) (Lj _);have N:Hd (∀F,CP 10 #[.slice none 0 0] F fun P M=>P=.returned (dV [x,y,z,A,B,C,D,E])/\Below F.heap.size F M):=fun F=>by
   have Q:=tz none 0 0 [] F rfl (by simp) (jq.nil _ _);rw[show dV [x,y,z,A,B,C,D,E]=dV (Aj [])by rw[K]];exact Q
  rw[K];have ai:=yy b c d e f g h i x y z A B C D E;have O:Hd ((((0:Nat)==0)&&([b,c,d,e,f,g,h,i]==[x,y,z,A,B,C,D,E]))=([b,c,d,e,f,g,h,i]==[x,y,z,A,B,C,D,E])):=rfl;rw[O.o];clear O K;generalize ([b,c,d,e,f,g,h,i]==[x,y,z,A,B,C,D,E])=ah at*;have s:=(aj.new a 98 (Value.int .i64 0::[b,c,d,e,f,g,h,i].map fj)).alloc (.cells ((Value.int .i64 j::[k,l,m,n,o,p,q,r].map fj).toArray) 98);unfold Vj fj at*;unfold dV fj at N;simp only[ZM,dN]at*;have a1:((a.alloc (.cells (vO 0 b c d e f g h i) 98)).alloc (.cells (vO j k l m n o p q r) 98)).cell? ⟨a.heap.size,1,none⟩=some (.int .u8 b.toNat):=aj.cell? s 1;have a2:((a.alloc (.cells (vO 0 b c d e f g h i) 98)).alloc (.cells (vO j k l m n o p q r) 98)).cell? ⟨a.heap.size,2,none⟩=some (.int .u8 c.toNat):=aj.cell? s 2;have a3:((a.alloc (.cells (vO 0 b c d e f g h i) 98)).alloc (.cells (vO j k l m n o p q r) 98)).cell? ⟨a.heap.size,3,none⟩=some (.int .u8 d.toNat):=aj.cell? s 3;have a4:((a.alloc (.cells (vO 0 b c d e f g h i) 98)).alloc (.cells (vO j k l m n o p q r) 98)).cell? ⟨a.heap.size,4,none⟩=some (.int .u8 e.toNat):=aj.cell? s 4;have a5:((a.alloc (.cells (vO 0 b c d e f g h i) 98)).alloc (.cells (vO j k l m n o p q r) 98)).cell? ⟨a.heap.size,5,none⟩=some (.int .u8 f.toNat):=aj.cell? s 5;have a6:((a.alloc (.cells (vO 0 b c d e f g h i) 98)).alloc (.cells (vO j k l m n o p q r) 98)).cell? ⟨a.heap.size,6,none⟩=some (.int .u8 g.toNat):=aj.cell? s 6;have a7:((a.alloc (.cells (vO 0 b c d e f g h i) 98)).alloc (.cells (vO j k l m n o p q r) 98)).cell? ⟨a.heap.size,7,none⟩=some (.int .u8 h.toNat):=aj.cell? s 7;have a8:((a.alloc (.cells (vO 0 b c d e f g h i) 98)).alloc (.cells (vO j k l m n o p q r) 98)).cell? ⟨a.heap.size,8,none⟩=some (.int .u8 i.toNat):=aj.cell? s 8;have U:Hd (aj ((a.alloc (.cells (vO 0 b c d e f g h i) 98)).alloc (.cells (vO j k l m n o p q r) 98)) a.heap.size 98 _):=s;clear s;go_enter Tryz.func77,Tryz.ntmps77;go_wp2
  go_region_held3 (fun v=>v.cell? ⟨a.heap.size,1,none⟩=some (.int .u8 b.toNat)/\v.cell? ⟨a.heap.size,2,none⟩=some (.int .u8 c.toNat)/\v.cell? ⟨a.heap.size,3,none⟩=some (.int .u8 d.toNat)/\v.cell? ⟨a.heap.size,4,none⟩=some (.int .u8 e.toNat)/\v.cell? ⟨a.heap.size,5,none⟩=some (.int .u8 f.toNat)/\v.cell? ⟨a.heap.size,6,none⟩=some (.int .u8 g.toNat)/\v.cell? ⟨a.heap.size,7,none⟩=some (.int .u8 h.toNat)/\v.cell? ⟨a.heap.size,8,none⟩=some (.int .u8 i.toNat)) (go_keep)
   ((go_at_call 10;refine(N.o _).mono ?_;rintro P t ⟨rfl,R⟩;have T:Hd (BB a t):=J.o.trans (by have H:=R.mono J.o.size;exact⟨H.os,H.tape,H.output,H.size,H.block⟩);have u:=aj.past R (by exact U.o);have a9:t.cell? ⟨a.heap.size,1,none⟩=some (.int .u8 b.toNat):=aj.cell? u 1;have aa:t.cell? ⟨a.heap.size,2,none⟩=some (.int .u8 c.toNat):=aj.cell? u 2;have ab:t.cell? ⟨a.heap.size,3,none⟩=some (.int .u8 d.toNat):=aj.cell? u 3;have ac:t.cell? ⟨a.heap.size,4,none⟩=some (.int .u8 e.toNat):=aj.cell? u 4;have ad:t.cell? ⟨a.heap.size,5,none⟩=some (.int .u8 f.toNat):=aj.cell? u 5;have ae:t.cell? ⟨a.heap.size,6,none⟩=some (.int .u8 g.toNat):=aj.cell? u 6;have af:t.cell? ⟨a.heap.size,7,none⟩=some (.int .u8 h.toNat):=aj.cell? u 7;have ag:t.cell? ⟨a.heap.size,8,none⟩=some (.int .u8 i.toNat):=aj.cell? u 8))
  all_goals
   go_wp2;go_ret;exact⟨rfl,T.o⟩
 .have al:((w:Int)==0)=false:=by rw[tN];simp only[ne_eq,beq_iff_eq];omega
  have S:(w==0)=false:=by rw[tN];simp only[ne_eq,beq_iff_eq];omega
  have am:(w:Int)<=9223372036854775807:=by omega
  rw[S,Bool.false_and];clear S;unfold Vj fj at*;simp only[ZM,dN]at*;go_enter Tryz.func77,Tryz.ntmps77;go_wp2;go_quiet (fail);go_wp2;go_ret;exact⟨rfl,by have G:=J.o;exact⟨G.os,G.tape,G.output,G.size,G.block⟩⟩
theorem AK(t s:Nat)(P S:List UInt8)(O:List (List UInt8))(T:Option Addr)(R:Nat)(a:World)(a9:P.length=8)(ad:S.length=8)(a8:t<=9223372036854775807)(a6:1<=s)(a7:s<=t)(aa:tq a T O.reverse)(a5:O.length<=R)(a4:R<=9223372036854775807):
  CP 77 #[Vj s P,Vj t S,.slice T O.length R] a fun a0 ag=>a0=.returned (.bool (iV (Xy s t true P O) P S))/\Below a.heap.size a ag:=by
 obtain⟨u,v,w,x,y,z,A,B,rfl⟩:=uj P a9;obtain⟨E,F,G,H,I,J,K,L,rfl⟩:=uj S ad;have M:Below a.heap.size a ((a.alloc (.cells ((Value.int .i64 s::[u,v,w,x,y,z,A,B].map fj).toArray) 98)).alloc (.cells ((Value.int .i64 t::[E,F,G,H,I,J,K,L].map fj).toArray) 98)):=tO.alloc (by simp) _;have W:aj ((a.alloc (.cells ((Value.int .i64 s::[u,v,w,x,y,z,A,B].map fj).toArray) 98)).alloc (.cells ((Value.int .i64 t::[E,F,G,H,I,J,K,L].map fj).toArray) 98)) a.heap.size 98 (Value.int .i64 s::[u,v,w,x,y,z,A,B].map fj):=(aj.new a _ _).alloc _;have X:aj ((a.alloc (.cells ((Value.int .i64 s::[u,v,w,x,y,z,A,B].map fj).toArray) 98)).alloc (.cells ((Value.int .i64 t::[E,F,G,H,I,J,K,L].map fj).toArray) 98)) (a.heap.size+1) 98 (Value.int .i64 t::[E,F,G,H,I,J,K,L].map fj):=aj.new_at _ _ _ _ (by simp);have a1:Hd (Calls _ _ _ _ _):=gX O t s true [u,v,w,x,y,z,A,B] T R _ (aa.below M) a5 a4 rfl a6 a7 a8;generalize Xy s t true [u,v,w,x,y,z,A,B] O=Q at*;have aI:¬(s:Int)<0:=by omega
 have aO:¬(t:Int)<s:=by omega
 have aP:((s:Int)==0)=false:=by rw[tN];simp only[ne_eq,beq_iff_eq];omega
 unfold Vj at*;unfold dV fj at*;simp only[ZM,dN]at*;go_enter Tryz.func77,Tryz.ntmps77;go_wp2_with fail;refine a1.o.mono ?_;rintro a0 r ⟨⟨af,U,ab,ac,rfl,Z⟩,N⟩;obtain⟨b,c,d,e,f,g,h,i,rfl⟩:=uj af ab;obtain⟨j,k,l,m,n,o,p,q,rfl⟩:=uj U ac;have C:=((aj.past N W).alloc (.cells (cO b c d e f g h i) 36)).alloc (.cells (cO j k l m n o p q) 36);have D:=((aj.past N X).alloc (.cells (cO b c d e f g h i) 36)).alloc (.cells (cO j k l m n o p q) 36);have ah:((r.alloc (.cells (cO b c d e f g h i) 36)).alloc (.cells (cO j k l m n o p q) 36)).cell? ⟨a.heap.size,1,none⟩=some (.int .u8 u.toNat):=aj.cell? C 1;have au:((r.alloc (.cells (cO b c d e f g h i) 36)).alloc (.cells (cO j k l m n o p q) 36)).cell? ⟨a.heap.size+1,1,none⟩=some (.int .u8 E.toNat):=aj.cell? D 1;have ai:((r.alloc (.cells (cO b c d e f g h i) 36)).alloc (.cells (cO j k l m n o p q) 36)).cell? ⟨a.heap.size,2,none⟩=some (.int .u8 v.toNat):=aj.cell? C 2;have av:((r.alloc (.cells (cO b c d e f g h i) 36)).alloc (.cells (cO j k l m n o p q) 36)).cell? ⟨a.heap.size+1,2,none⟩=some (.int .u8 F.toNat):=aj.cell? D 2;have ak:((r.alloc (.cells (cO b c d e f g h i) 36)).alloc (.cells (cO j k l m n o p q) 36)).cell? ⟨a.heap.size,3,none⟩=some (.int .u8 w.toNat):=aj.cell? C 3;have ax:((r.alloc (.cells (cO b c d e f g h i) 36)).alloc (.cells (cO j k l m n o p q) 36)).cell? ⟨a.heap.size+1,3,none⟩=some (.int .u8 G.toNat):=aj.cell? D 3;have al:((r.alloc (.cells (cO b c d e f g h i) 36)).alloc (.cells (cO j k l m n o p q) 36)).cell? ⟨a.heap.size,4,none⟩=some (.int .u8 x.toNat):=aj.cell? C 4;have aA:((r.alloc (.cells (cO b c d e f g h i) 36)).alloc (.cells (cO j k l m n o p q) 36)).cell? ⟨a.heap.size+1,4,none⟩=some (.int .u8 H.toNat):=aj.cell? D 4;have am:((r.alloc (.cells (cO b c d e f g h i) 36)).alloc (.cells (cO j k l m n o p q) 36)).cell? ⟨a.heap.size,5,none⟩=some (.int .u8 y.toNat):=aj.cell? C 5;have aB:((r.alloc (.cells (cO b c d e f g h i) 36)).alloc (.cells (cO j k l m n o p q) 36)).cell? ⟨a.heap.size+1,5,none⟩=some (.int .u8 I.toNat):=aj.cell? D 5
 have an:((r.alloc (.cells (cO b c d e f g h i) 36)).alloc (.cells (cO j k l m n o p q) 36)).cell? ⟨a.heap.size,6,none⟩=some (.int .u8 z.toNat):=aj.cell? C 6;have aC:((r.alloc (.cells (cO b c d e f g h i) 36)).alloc (.cells (cO j k l m n o p q) 36)).cell? ⟨a.heap.size+1,6,none⟩=some (.int .u8 J.toNat):=aj.cell? D 6;have ao:((r.alloc (.cells (cO b c d e f g h i) 36)).alloc (.cells (cO j k l m n o p q) 36)).cell? ⟨a.heap.size,7,none⟩=some (.int .u8 A.toNat):=aj.cell? C 7;have aD:((r.alloc (.cells (cO b c d e f g h i) 36)).alloc (.cells (cO j k l m n o p q) 36)).cell? ⟨a.heap.size+1,7,none⟩=some (.int .u8 K.toNat):=aj.cell? D 7;have ap:((r.alloc (.cells (cO b c d e f g h i) 36)).alloc (.cells (cO j k l m n o p q) 36)).cell? ⟨a.heap.size,8,none⟩=some (.int .u8 B.toNat):=aj.cell? C 8;have aE:((r.alloc (.cells (cO b c d e f g h i) 36)).alloc (.cells (cO j k l m n o p q) 36)).cell? ⟨a.heap.size+1,8,none⟩=some (.int .u8 L.toNat):=aj.cell? D 8;have aR:=yy b c d e f g h i u v w x y z A B;have aS:=yy j k l m n o p q E F G H I J K L;have Y:Hd (iV Q [u,v,w,x,y,z,A,B] [E,F,G,H,I,J,K,L]=(Q.isSome&&(([b,c,d,e,f,g,h,i]==[u,v,w,x,y,z,A,B])&&([j,k,l,m,n,o,p,q]==[E,F,G,H,I,J,K,L])))):=by
  cases a3:Q with
  |none=>rfl
  |some U=>
   have:=Z U a3;subst this;rfl
 clear Z;have V:Hd (BB a ((r.alloc (.cells (cO b c d e f g h i) 36)).alloc (.cells (cO j k l m n o p q) 36))):=((M.trans (N.mono M.size)).alloc (M.trans (N.mono M.size)).size _).alloc (by have:=(M.trans (N.mono M.size)).size;simp;omega) _;generalize ([b,c,d,e,f,g,h,i]==[u,v,w,x,y,z,A,B])=a2 at*;generalize ([j,k,l,m,n,o,p,q]==[E,F,G,H,I,J,K,L])=ar at*;generalize Q.isSome=ae at*;clear N M W X C D;unfold dV fj;simp only[ZM,dN];cases ae
 .go_wp2;go_ret;exact⟨by rw[Y.o];rfl,V.o⟩
 .cases a2
  all_goals
   go_wp2;go_ret;exact⟨by rw[Y.o];rfl,V.o⟩
theorem BK(a b:Int)(f g:List UInt8)(c:List (List UInt8))(h:Option Addr)(e:Nat)(d:World)(k:f.length=8)(l:g.length=8)(t:b<=9223372036854775807)(q:tq d h c.reverse)(p:c.length<=e)(o:e<=9223372036854775807):
  CP 77 #[Vj a f,Vj b g,.slice h c.length e] d fun r s=>r=.returned (.bool (tQ a b f g c))/\Below d.heap.size d s:=by
 unfold tQ;by_cases i:a<0\/b<a
 .rw[if_pos i];exact FW a b f g h c.length e d k l i
 .rw[if_neg i];by_cases j:a=0
  .rw[if_pos j];subst j;exact AY b f g h c.length e d k l (by omega) (by omega)
  .rw[if_neg j];obtain⟨n,rfl⟩:∃n:Nat,b=n:=⟨b.toNat,by omega⟩;obtain⟨m,rfl⟩:∃m:Nat,a=m:=⟨a.toNat,by omega⟩;simp only[Jaj];exact AK n m f g c h e d k l (by omega) (by omega) (by omega) q p o
end Go.Proofs.YtekegfbjbainhaaGreat
