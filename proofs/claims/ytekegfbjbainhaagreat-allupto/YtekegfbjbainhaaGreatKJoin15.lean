import Derived.Test.YtekegfbjbainhaaGreatKJoin5
set_option maxRecDepth 100000
set_option maxHeartbeats 1600000
set_option linter.unusedVariables false
set_option linter.unusedSimpArgs false
namespace Go.Proofs.YtekegfbjbainhaaGreat
open Go.RowKit
attribute [local go_sem↓] Go.wp_at_zero Go.wp_at_succ
theorem YH(a:Nat)(e:World)(r:a<18446744073709551616)(h:72057594037927936<=a):
  CP 158 #[.int .u64 (a:Int)] e fun g i=>g=.returned (.int .i64 (Lib.bitLen a:Int))/\i=e:=by
 have j:(4294967296:Int)<=(a:Int):=by omega
 have k:(65536:Int)<=(a:Int)/4294967296:=by omega
 have l:(256:Int)<=(a:Int)/4294967296/65536:=by omega
 have m:(a:Int)/4294967296/65536/256<256:=by omega
 have n:((a:Int)/4294967296/65536/256)%256=(a:Int)/4294967296/65536/256:=by omega
 have o:(0:Int)<=(a:Int)/4294967296/65536/256:=by omega
 have s:(a:Int)<18446744073709551616:=by omega
 have d:a/72057594037927936<256:=by omega
 have f:Hd (Ny[a/72057594037927936]?.map (·.toNat)=some (Lib.bitLen (a/72057594037927936))):=Lk ⟨a/72057594037927936,d⟩;have q:Lib.bitLen (a/72057594037927936)<=8:=Lib.bitLen_le8 ⟨a/72057594037927936,d⟩;have b:Hd (Lib.bitLen a=56+Lib.bitLen (a/72057594037927936)):=Lib.bitLen_shift56 a h (by omega);rw[b.o];clear b;generalize Lib.bitLen (a/72057594037927936)=c at*;have p:(c:Int)<=8:=by omega
 go_enter Tryz.func158,Tryz.ntmps158;go_wp2_with (refine ay (by rfl) 9 (.tmp 21) Ny (by rfl) (a/72057594037927936) c (by exact congrArg (Value.int .u8) (by omega)) Tryz.underlying9 f.o ?_);go_ret;exact⟨by congr 2,rfl⟩
theorem ZH(a:Nat)(e:World)(r:a<72057594037927936)(h:281474976710656<=a):
  CP 158 #[.int .u64 (a:Int)] e fun g i=>g=.returned (.int .i64 (Lib.bitLen a:Int))/\i=e:=by
 have j:(4294967296:Int)<=(a:Int):=by omega
 have k:(65536:Int)<=(a:Int)/4294967296:=by omega
 have l:¬(256:Int)<=(a:Int)/4294967296/65536:=by omega
 have m:(a:Int)/4294967296/65536<256:=by omega
 have n:((a:Int)/4294967296/65536)%256=(a:Int)/4294967296/65536:=by omega
 have o:(0:Int)<=(a:Int)/4294967296/65536:=by omega
 have s:(a:Int)<72057594037927936:=by omega
 have d:a/281474976710656<256:=by omega
 have f:Hd (Ny[a/281474976710656]?.map (·.toNat)=some (Lib.bitLen (a/281474976710656))):=Lk ⟨a/281474976710656,d⟩;have q:Lib.bitLen (a/281474976710656)<=8:=Lib.bitLen_le8 ⟨a/281474976710656,d⟩;have b:Hd (Lib.bitLen a=48+Lib.bitLen (a/281474976710656)):=Lib.bitLen_shift48 a h (by omega);rw[b.o];clear b;generalize Lib.bitLen (a/281474976710656)=c at*;have p:(c:Int)<=8:=by omega
 go_enter Tryz.func158,Tryz.ntmps158;go_wp2_with (refine ay (by rfl) 9 (.tmp 21) Ny (by rfl) (a/281474976710656) c (by exact congrArg (Value.int .u8) (by omega)) Tryz.underlying9 f.o ?_);go_ret;exact⟨by congr 2,rfl⟩
theorem aL(a:Nat)(e:World)(r:a<281474976710656)(h:1099511627776<=a):
  CP 158 #[.int .u64 (a:Int)] e fun g i=>g=.returned (.int .i64 (Lib.bitLen a:Int))/\i=e:=by
 have j:(4294967296:Int)<=(a:Int):=by omega
 have k:¬(65536:Int)<=(a:Int)/4294967296:=by omega
 have l:(256:Int)<=(a:Int)/4294967296:=by omega
 have m:(a:Int)/4294967296/256<256:=by omega
 have n:((a:Int)/4294967296/256)%256=(a:Int)/4294967296/256:=by omega
 have o:(0:Int)<=(a:Int)/4294967296/256:=by omega
 have s:(a:Int)<281474976710656:=by omega
 have d:a/1099511627776<256:=by omega
 have f:Hd (Ny[a/1099511627776]?.map (·.toNat)=some (Lib.bitLen (a/1099511627776))):=Lk ⟨a/1099511627776,d⟩;have q:Lib.bitLen (a/1099511627776)<=8:=Lib.bitLen_le8 ⟨a/1099511627776,d⟩;have b:Hd (Lib.bitLen a=40+Lib.bitLen (a/1099511627776)):=Lib.bitLen_shift40 a h (by omega);rw[b.o];clear b;generalize Lib.bitLen (a/1099511627776)=c at*;have p:(c:Int)<=8:=by omega
 go_enter Tryz.func158,Tryz.ntmps158;go_wp2_with (refine ay (by rfl) 9 (.tmp 21) Ny (by rfl) (a/1099511627776) c (by exact congrArg (Value.int .u8) (by omega)) Tryz.underlying9 f.o ?_);go_ret;exact⟨by congr 2,rfl⟩
theorem bL(a:Nat)(e:World)(r:a<1099511627776)(h:4294967296<=a):
  CP 158 #[.int .u64 (a:Int)] e fun g i=>g=.returned (.int .i64 (Lib.bitLen a:Int))/\i=e:=by
 have j:(4294967296:Int)<=(a:Int):=by omega
 have k:¬(65536:Int)<=(a:Int)/4294967296:=by omega
 have l:¬(256:Int)<=(a:Int)/4294967296:=by omega
 have m:(a:Int)/4294967296<256:=by omega
 have n:((a:Int)/4294967296)%256=(a:Int)/4294967296:=by omega
 have o:(0:Int)<=(a:Int)/4294967296:=by omega
 have s:(a:Int)<1099511627776:=by omega
 have d:a/4294967296<256:=by omega
 have f:Hd (Ny[a/4294967296]?.map (·.toNat)=some (Lib.bitLen (a/4294967296))):=Lk ⟨a/4294967296,d⟩;have q:Lib.bitLen (a/4294967296)<=8:=Lib.bitLen_le8 ⟨a/4294967296,d⟩;have b:Hd (Lib.bitLen a=32+Lib.bitLen (a/4294967296)):=Lib.bitLen_shift32 a h (by omega);rw[b.o];clear b;generalize Lib.bitLen (a/4294967296)=c at*;have p:(c:Int)<=8:=by omega
 go_enter Tryz.func158,Tryz.ntmps158;go_wp2_with (refine ay (by rfl) 9 (.tmp 21) Ny (by rfl) (a/4294967296) c (by exact congrArg (Value.int .u8) (by omega)) Tryz.underlying9 f.o ?_);go_ret;exact⟨by congr 2,rfl⟩
theorem cL(a:Nat)(e:World)(r:a<4294967296)(h:16777216<=a):
  CP 158 #[.int .u64 (a:Int)] e fun g i=>g=.returned (.int .i64 (Lib.bitLen a:Int))/\i=e:=by
 have j:¬(4294967296:Int)<=(a:Int):=by omega
 have k:(65536:Int)<=(a:Int):=by omega
 have l:(256:Int)<=(a:Int)/65536:=by omega
 have m:(a:Int)/65536/256<256:=by omega
 have n:((a:Int)/65536/256)%256=(a:Int)/65536/256:=by omega
 have o:(0:Int)<=(a:Int)/65536/256:=by omega
 have s:(a:Int)<4294967296:=by omega
 have d:a/16777216<256:=by omega
 have f:Hd (Ny[a/16777216]?.map (·.toNat)=some (Lib.bitLen (a/16777216))):=Lk ⟨a/16777216,d⟩;have q:Lib.bitLen (a/16777216)<=8:=Lib.bitLen_le8 ⟨a/16777216,d⟩;have b:Hd (Lib.bitLen a=24+Lib.bitLen (a/16777216)):=Lib.bitLen_shift24 a h (by omega);rw[b.o];clear b;generalize Lib.bitLen (a/16777216)=c at*;have p:(c:Int)<=8:=by omega
 go_enter Tryz.func158,Tryz.ntmps158;go_wp2_with (refine ay (by rfl) 9 (.tmp 21) Ny (by rfl) (a/16777216) c (by exact congrArg (Value.int .u8) (by omega)) Tryz.underlying9 f.o ?_);go_ret;exact⟨by congr 2,rfl⟩
theorem dL(a:Nat)(e:World)(r:a<16777216)(h:65536<=a):
  CP 158 #[.int .u64 (a:Int)] e fun g i=>g=.returned (.int .i64 (Lib.bitLen a:Int))/\i=e:=by
 have j:¬(4294967296:Int)<=(a:Int):=by omega
 have k:(65536:Int)<=(a:Int):=by omega
 have l:¬(256:Int)<=(a:Int)/65536:=by omega
 have m:(a:Int)/65536<256:=by omega
 have n:((a:Int)/65536)%256=(a:Int)/65536:=by omega
 have o:(0:Int)<=(a:Int)/65536:=by omega
 have s:(a:Int)<16777216:=by omega
 have d:a/65536<256:=by omega
 have f:Hd (Ny[a/65536]?.map (·.toNat)=some (Lib.bitLen (a/65536))):=Lk ⟨a/65536,d⟩;have q:Lib.bitLen (a/65536)<=8:=Lib.bitLen_le8 ⟨a/65536,d⟩;have b:Hd (Lib.bitLen a=16+Lib.bitLen (a/65536)):=Lib.bitLen_shift16 a h (by omega);rw[b.o];clear b;generalize Lib.bitLen (a/65536)=c at*;have p:(c:Int)<=8:=by omega
 go_enter Tryz.func158,Tryz.ntmps158;go_wp2_with (refine ay (by rfl) 9 (.tmp 21) Ny (by rfl) (a/65536) c (by exact congrArg (Value.int .u8) (by omega)) Tryz.underlying9 f.o ?_);go_ret;exact⟨by congr 2,rfl⟩
theorem aM(a:Nat)(e:World)(r:a<65536)(h:256<=a):
  CP 158 #[.int .u64 (a:Int)] e fun g i=>g=.returned (.int .i64 (Lib.bitLen a:Int))/\i=e:=by
 have j:¬(4294967296:Int)<=(a:Int):=by omega
 have k:¬(65536:Int)<=(a:Int):=by omega
 have l:(256:Int)<=(a:Int):=by omega
 have m:(a:Int)/256<256:=by omega
 have n:((a:Int)/256)%256=(a:Int)/256:=by omega
 have o:(0:Int)<=(a:Int)/256:=by omega
 have s:(a:Int)<65536:=by omega
 have d:a/256<256:=by omega
 have f:Hd (Ny[a/256]?.map (·.toNat)=some (Lib.bitLen (a/256))):=Lk ⟨a/256,d⟩;have q:Lib.bitLen (a/256)<=8:=Lib.bitLen_le8 ⟨a/256,d⟩;have b:Hd (Lib.bitLen a=8+Lib.bitLen (a/256)):=Lib.bitLen_shift8 a h (by omega);rw[b.o];clear b;generalize Lib.bitLen (a/256)=c at*;have p:(c:Int)<=8:=by omega
 go_enter Tryz.func158,Tryz.ntmps158;go_wp2_with (refine ay (by rfl) 9 (.tmp 21) Ny (by rfl) (a/256) c (by exact congrArg (Value.int .u8) (by omega)) Tryz.underlying9 f.o ?_);go_ret;exact⟨by congr 2,rfl⟩
theorem pG(a:Nat)(b:World)(k:a<18446744073709551616):
  CP 158 #[.int .u64 (a:Int)] b fun c l=>c=.returned (.int .i64 (Lib.bitLen a:Int))/\l=b:=by
 by_cases j:a<256
 .exact YV a b j
 by_cases d:a<65536
 .exact aM a b d (by omega)
 by_cases e:a<16777216
 .exact dL a b e (by omega)
 by_cases f:a<4294967296
 .exact cL a b f (by omega)
 by_cases g:a<1099511627776
 .exact bL a b g (by omega)
 by_cases h:a<281474976710656
 .exact aL a b h (by omega)
 by_cases i:a<72057594037927936
 .exact ZH a b i (by omega)
 .exact YH a b k (by omega)
theorem bM(a:Nat)(b:World)(f:a<=9223372036854775807):
  CP 147 #[.int .u64 (a:Int)] b fun c g=>c=.returned (.int .i64 (Lib.bitLen a:Int))/\g=b:=by
 have d:Hd (Calls _ _ _ _ _):=pG a b (by omega);generalize Lib.bitLen a=i at*;have j:(a:Int)<=9223372036854775807:=by omega
 clear f;go_enter Tryz.func147,Tryz.ntmps147;go_wp2_with (go_at_call 158;refine d.o.mono ?_;rintro c h ⟨rfl,e⟩;obtain rfl:b=h:=e.symm);go_ret;exact⟨rfl,rfl⟩
theorem cY:∀(b a:Nat),a<2^b->b<=64->1<=a->1<=Lib.bitLen a/\2^(Lib.bitLen a - 1)<=a/\a<2^Lib.bitLen a/\Lib.bitLen a<=b
 |0,a,c,_,d=>by simp at c;omega
 |b+1,a,c,f,d=>by
  have e:a<2^64:=qN c (Nat.pow_le_pow_right (by omega) f);rw[Lib.bitLen_half a (by omega) e];by_cases l:a/2=0
  .have g:a=1:=by omega
   subst g;rw[show(1:Nat)/2=0 from rfl,show Lib.bitLen 0=0 from rfl];exact⟨by omega,by omega,by omega,by omega⟩
  .obtain⟨h,i,j,k⟩:=cY b (a/2) (by rw[Gaj]at c;omega) (by omega) (by omega);refine⟨by omega,?_,?_,by omega⟩
   .rw[show 1+Lib.bitLen (a/2) - 1=(Lib.bitLen (a/2) - 1)+1 by omega,Gaj];omega
   .rw[Nat.add_comm 1,Gaj];omega
theorem dY:∀(c a b:Nat),2^a<b->b<=2^(a+c+1)->∃d,Zk c (2^a) b=2^d/\2^d<b/\b<=2^(d+1)
 |0,a,b,e,f=>⟨a,rfl,e,f⟩
 |c+1,a,b,e,f=>by
  unfold Zk
  split
  .rw[show 2*2^a=2^(a+1)by rw[Gaj,Nat.mul_comm]];have g:2^(a+1)=2^a*2:=Gaj 2 a;exact dY c (a+1) b (by omega) (by rw[show a+1+c+1=a+(c+1)+1 by omega];exact f)
  .have g:2^(a+1)=2^a*2:=Gaj 2 a;exact⟨a,rfl,e,by omega⟩
theorem qG(a:Nat)(f:1<=a)(h:a<2^63):1<=Lib.bitLen a/\Lib.bitLen a<=63/\2^(Lib.bitLen a - 1)=gj (a+1):=by
 obtain⟨d,k,l,e⟩:=cY 63 a h (by omega) f;obtain⟨b,g,m,o⟩:=dY 64 0 (a+1) (by omega) (by have:=Nat.pow_le_pow_right (n:=2) (by omega) (show 63<=0+64+1 by omega);omega);refine⟨d,e,?_⟩;have c:gj (a+1)=2^b:=g;rw[c];have i:2^(Lib.bitLen a - 1)<2^(b+1):=by omega
 have j:2^b<2^Lib.bitLen a:=by omega
 have p:=(Nat.pow_lt_pow_iff_right (by omega:1<2)).1 i;have q:=(Nat.pow_lt_pow_iff_right (by omega:1<2)).1 j
 congr 1
 omega
theorem Py(c:Nat)(d:World)(p:2<=c)(o:c<=9223372036854775807):
  CP 128 #[.int .i64 c] d fun g s=>g=.returned (.int .i64 (gj c:Int))/\s=d:=by
 obtain⟨a,rfl⟩:∃a,c=a+1:=⟨c - 1,by omega⟩;have l:=qG a (by omega) (by omega);have i:Hd (Calls _ _ _ _ _):=bM a d (by omega);have z:((a+1:Nat):Int) - 1=(a:Int):=by omega
 have y:(a:Int)<=9223372036854775807:=by omega
 have u:Hd (((a+1:Nat):Int)=(a:Int)+1):=by unfold Hd;omega
 generalize gj (a+1)=k at*;generalize Lib.bitLen a=f at*;obtain⟨m,n,e⟩:=l;obtain⟨b,rfl⟩:∃b,f=b+1:=⟨f - 1,by omega⟩;simp only[Nat.add_sub_cancel]at e;have x:((b+1:Nat):Int) - 1=(b:Int):=by omega
 have v:(b:Int)<=62:=by omega
 have w:b<=62:=by omega
 have j:Hd (wrap64 ((2:Int)^b)=(k:Int)):=by
  unfold Hd;rw[<-e];have q:∀h:Fin 63,wrap64 ((2:Int)^h.val)=((2^h.val:Nat):Int):=by decide+kernel
  exact q ⟨b,by omega⟩
 clear m n p o e;go_enter Tryz.func128,Tryz.ntmps128;go_wp2_with (go_at_call 147;refine i.o.mono ?_;rintro g t ⟨rfl,r⟩;obtain rfl:d=t:=r.symm);go_ret;exact⟨by rw[<-j.o];rfl,rfl⟩
def gw:List UInt8:=[0,0,0,0,0,0,0,0]
def Zq:Nat->Nat->List UInt8->List (List UInt8)->List UInt8×Bool
 |_,a,b,[]=>if a=1 then(Aj (0::b),true)else(gw,false)
 |c,a,b,e::d=>if a=1 then(Aj (0::b),false)else
  if c<gj a then(Aj (1::((Zq c (gj a) b d).1++e)),(Zq c (gj a) b d).2)
  else(Aj (1::(e++(Zq (c - gj a) (a - gj a) b d).1)),(Zq (c - gj a) (a - gj a) b d).2)
theorem xy:∀(d:List (List UInt8)) (a b:Nat) (c:List UInt8),(Zq a b c d).1.length=8
 |[],a,b,c=>by
  unfold Zq
  split
  .exact Lj _
  .rfl
 |e::d,a,b,c=>by
  unfold Zq
  split
  .exact Lj _
  .split
   .exact Lj _
   .exact Lj _
theorem Qy{g:Func}{f:Ending->World->Prop}{a:Act}{e:World}{k j c:Nat}{b:List UInt8}{d:Value}(p:g.results=#[ResultVar.cell k 36,ResultVar.tmp j])(l:a.tmps.getD k undef=.pointer (some ⟨c,0,none⟩))
  (i:aj e c 36 (b.map fj))(n:b.length=8)(q:a.tmps.getD j undef=d)(o:a.defers=[])(h:f (.returned (.tuple #[dV b,d])) e):bodyPost Tryz.prog g f .ret a e:=by
 refine bodyPost_ret (v:=.tuple #[dV b,d]) ?_ o h;have s:=run_loadVar_mid (P:=Tryz.prog) e c 0 36 (b.map fj) _ i.range Tryz.underlying36 rfl (by simpa[n]using Tryz.infoDig);have m:a.tmps[k]?.getD undef=.pointer (some ⟨c,0,none⟩):=by rw[<-l];simp[WN]
 have r:a.tmps[j]?.getD undef=d:=by rw[<-q];simp[WN]
 unfold results;rw[p];simp[m,s,r,dV,asAddr]
theorem tq.last{g:World}{d f:Nat}{a:List (List UInt8)}{b:List UInt8}(c:tq g (some ⟨d,f,none⟩) (b::a).reverse):g.rangeAt d (f+a.length*8) (b.map fj)/\tq g (some ⟨d,f,none⟩) a.reverse/\b.length=8:=by
 rw[List.reverse_cons]at c;have m:b.length=8:=c.2 b (by simp);have h:=c.drop a.length (by simp);rw[show(a.reverse++[b]).drop a.length=[b]by rw[List.drop_append_of_le_length (by simp),List.drop_of_length_le (by simp)];rfl]at h;have i:=c.take a.length (by simp);rw[show(a.reverse++[b]).take a.length=a.reverse by rw[fbj (by simp),aaj (by simp)]]at i;refine⟨fun n r e=>?_,i,m⟩;obtain⟨l,e⟩:=kN.1 e;obtain⟨o,q,j,p,k⟩:=h.1 n (by simpa[qj]using l);cases j;rw[k];simp only[qj,JN,List.flatMap_nil,XN];rw[e]
theorem tq.addr{f:World}{e:Option Addr}{d:List UInt8}{i:List (List UInt8)}(b:tq f e (d::i)):∃a c,e=some ⟨a,c,none⟩/\a<f.heap.size:=by
 have j:d.length=8:=b.2 d (by simp);obtain⟨a,c,g,h,_⟩:=b.1 0 (by rw[mq _ b.2];simp);exact⟨a,c,g,h⟩
theorem GZ(c m:Nat)(b:List UInt8)(s:Option Addr)(t:Nat)(a:World)(p:b.length=8)(A:c<=9223372036854775807):
  CP 112 #[.int .i64 m,.int .i64 1,dV b,.slice s c t] a fun x y=>x=.returned (.tuple #[dV (Aj (0::b)),.bool (c==0)])/\Below a.heap.size a y:=by
 have e:Below a.heap.size a ((a.alloc (.cells (b.map fj).toArray 36)).alloc (.cells z8.toArray 36)):=tO.alloc (by simp) _;have n:aj ((a.alloc (.cells (b.map fj).toArray 36)).alloc (.cells z8.toArray 36)) a.heap.size 36 (b.map fj):=(aj.new a _ _).alloc _;have f:aj ((a.alloc (.cells (b.map fj).toArray 36)).alloc (.cells z8.toArray 36)) (a.heap.size+1) 36 z8:=aj.new_at _ _ _ _ (by simp);have C:((a.alloc (.cells (b.map fj).toArray 36)).alloc (.cells z8.toArray 36)).heap.size=a.heap.size+2:=by simp
 have B:(c:Int)<=9223372036854775807:=by omega
 obtain⟨d,h⟩:∃d,d=Aj (0::b):=⟨_,rfl⟩;have o:d.length=8:=by rw[h];exact Lj _
 have l:Hd (Aj (0::b)=d):=h.symm;rw[l.o];clear h;have r:Hd (((c:Int)==0)=(c==0)):=by
  unfold Hd;rw[caj];simp
 rw[<-r.o];rw[show dV b=.agg (b.map fj).toArray from rfl];go_enter Tryz.func112,Tryz.ntmps112;go_wp2_with (refine wpList_load_mid (by rfl) 36 (.tmp 6) (by rfl) a.heap.size 0 (by rfl) (b.map fj) _ (n.range) Tryz.underlying36 (by rfl) (by simpa[p]using Tryz.infoDig) ?_);refine(FY b _ p).mono ?_;rintro m q ⟨rfl,g⟩;rw[l.o];have D:=g.size;have v:aj q (a.heap.size+1) 36 z8:=f.below f.lt g;have i:Hd (BB a q):=e.trans (g.mono e.size);clear n f e;go_wp2_with (refine iq (by rfl) (.tmp 8) (.tmp 19) (by rfl) (a.heap.size+1) (by rfl) d o (by rfl) v (by rfl) ?_;intro G u w E);exact Qy (k:=8) (j:=9) rfl rfl u o rfl rfl ⟨rfl,i.o.trans (w.below i.o.size (fun F z=>by omega))⟩
theorem sW(c g:Nat)(b:List UInt8)(e:Option Addr)(f:Nat)(a:World)(s:b.length=8)(p:c≠1)(r:c<=9223372036854775807):
  CP 112 #[.int .i64 g,.int .i64 c,dV b,.slice e 0 f] a fun m n=>m=.returned (.tuple #[dV gw,.bool false])/\Below a.heap.size a n:=by
 have d:Hd (BB a ((a.alloc (.cells (b.map fj).toArray 36)).alloc (.cells z8.toArray 36))):=tO.alloc (by simp) _;have i:aj ((a.alloc (.cells (b.map fj).toArray 36)).alloc (.cells z8.toArray 36)) (a.heap.size+1) 36 z8:=aj.new_at _ _ _ _ (by simp);have q:((c:Int)==1)=false:=by simp;omega
 rw[show dV b=.agg (b.map fj).toArray from rfl];go_enter Tryz.func112,Tryz.ntmps112;go_wp2_with (refine iq (by rfl) (.tmp 8) (.tmp 26) (by rfl) (a.heap.size+1) (by rfl) gw rfl (by rfl) i (by rfl) ?_;intro v h l t);exact Qy (k:=8) (j:=9) rfl rfl h rfl rfl rfl ⟨rfl,d.o.trans (l.below d.o.size (fun u o=>by omega))⟩
theorem IZ:∀(f:List (List UInt8)) (e b:Nat) (c:List UInt8) (w:Option Addr) (l:Nat) (a:World),tq a w f.reverse->f.length<=l->l<=9223372036854775807->c.length=8->1<=e->e<=9223372036854775807->b<e->
  CP 112 #[.int .i64 b,.int .i64 e,dV c,.slice w f.length l] a fun o a1=>o=.returned (.tuple #[dV (Zq b e c f).1,.bool (Zq b e c f).2])/\Below a.heap.size a a1
 |[],e,b,c,w,l,a,a7,a5,ai,J,aa,Q,ad=>by
  unfold Zq;by_cases O:e=1
  .subst O;exact GZ 0 b c w l a J (by omega)
  .rw[if_neg O];exact sW e b c w l a J O Q
 |g::f,e,b,c,w,l,a,a7,a5,ai,J,aa,Q,ad=>by
  unfold Zq;by_cases O:e=1
  .subst O;exact GZ (f.length+1) b c w l a J (by simp at a5;omega)
  rw[if_neg O];obtain⟨r,z,rfl,ap⟩:∃r z,w=some ⟨r,z,none⟩/\r<a.heap.size:=by
   have a9:=a7;have ax:(g::f).reverse≠[]:=by simp
   revert a9;generalize (g::f).reverse=ao at*;cases ao with
   |nil=>exact absurd rfl ax
   |cons bc ao=>exact fun a9=>a9.addr
  obtain⟨ak,am,aB⟩:=a7.last;have ar:=Rq e (by omega);have ah:Hd (∀a:World,CP 122 #[.int .i64 e] a fun b a1=>b=.returned (.int .i64 (gj e:Int))/\a1=a):=fun a=>My e a Q;have M:Hd (∀(h:World) (y N:Nat),BB a h->1<=y->y<=9223372036854775807->N<y->CP 112 #[.int .i64 (N:Int),.int .i64 (y:Int),dV c,.slice (some ⟨r,z,none⟩) f.length l] h fun o a1=>o=.returned (.tuple #[dV (Zq N y c f).1,.bool (Zq N y c f).2])/\Below h.heap.size h a1):=fun h y N U aa Q ad=>
   IZ f y N c (some ⟨r,z,none⟩) l h (am.below U) (by simp at a5;omega) ai J aa Q ad
  have B:Below a.heap.size a ((a.alloc (.cells (c.map fj).toArray 36)).alloc (.cells z8.toArray 36)):=tO.alloc (by simp) _;have a3:aj ((a.alloc (.cells (c.map fj).toArray 36)).alloc (.cells z8.toArray 36)) a.heap.size 36 (c.map fj):=(aj.new a _ _).alloc _;have a4:aj ((a.alloc (.cells (c.map fj).toArray 36)).alloc (.cells z8.toArray 36)) (a.heap.size+1) 36 z8:=aj.new_at _ _ _ _ (by simp);have a6:((a.alloc (.cells (c.map fj).toArray 36)).alloc (.cells z8.toArray 36)).rangeAt r (z+f.length*8) (g.map fj):=fun an o aA=>by
   rw[B.cell (p:=⟨r,z+f.length*8+an,none⟩) ap];exact ak an o aA
  have ba:((a.alloc (.cells (c.map fj).toArray 36)).alloc (.cells z8.toArray 36)).heap.size=a.heap.size+1+1:=by simp
  generalize gj e=d at*;obtain⟨au,b0⟩:=ar;have al:(g::f).length=f.length+1:=rfl;rw[al]at a5⊢;generalize f.length=x at*;have b4:((x+1:Nat):Int) - 1=(x:Int):=by omega
  have b3:(((x+1:Nat):Int)==0)=false:=by simp;omega
  have b5:(x:Int)<l:=by omega
  have aR:(l:Int)<=9223372036854775807:=by omega
  have b6:((x+1:Nat):Int)=(x:Int)+1:=by omega
  have b7:((e:Int)==1)=false:=by simp;omega
  have b1:(1:Int)<=d:=by omega
  have b2:(d:Int)<e:=by omega
  have b8:(e:Int)<=9223372036854775807:=by omega
  clear ak am a7 al;have v:Hd (g.length=8):=aB;by_cases af:b<d
  .rw[if_pos af];obtain⟨m,I⟩:∃m,m=Aj (1::((Zq b d c f).1++g)):=⟨_,rfl⟩;have Y:m.length=8:=by rw[I];exact Lj _
   have P:Hd (Aj (1::((Zq b d c f).1++g))=m):=I.symm;have A:Hd ((Zq b d c f).1.length=8):=xy f b d c;rw[P.o];clear I;have av:(b:Int)<d:=by omega
   rw[show dV c=.agg (c.map fj).toArray from rfl]at M⊢;have a8:Hd (∀(h:World),BB a h->Calls _ _ _ h _):=fun h U=>M.o h d b U au (by omega) af;generalize Zq b d c f=K at*;clear M;go_enter Tryz.func112,Tryz.ntmps112;go_wp2_with fail;refine(ah.o _).mono ?_;rintro o aI ⟨rfl,rfl⟩;go_wp2_with (first
    |(refine wpList_load_mid (by rfl) 36 (.tmp 33) (by rfl) r (z+x*8) (by rfl) (g.map fj) _ (by exact a6) Tryz.underlying36 (by rfl) (by simpa[v.o]using Tryz.infoDig) ?_)
    |(refine iq (by rfl) (.tmp 11) (.tmp 34) (by rfl) (a.heap.size+1+1) (by rfl) g v.o (by rfl) (aj.new_at _ 36 _ z8 (by simp)) (by rfl) ?_;intro q E t a0;have s:Below a.heap.size a q:=maj (B.alloc B.size (.cells z8.toArray 36)) (t.below (by simp;omega) (fun d Z=>by omega));have R:aj q a.heap.size 36 (c.map fj):=(a3.alloc (.cells z8.toArray 36)).of_block (t.block _ (by simp;omega) (fun b=>by omega));have F:aj q (a.heap.size+1) 36 z8:=(a4.alloc (.cells z8.toArray 36)).of_block (t.block _ (by simp) (fun b=>by omega)))
    |(refine wpList_load_mid (by rfl) 36 (.tmp 6) (by rfl) a.heap.size 0 (by rfl) (c.map fj) _ (by exact R.range) Tryz.underlying36 (by rfl) (by simpa[J]using Tryz.infoDig) ?_))
   have aC:q.heap.size=a.heap.size+1+1+1:=by rw[a0];simp
   refine(a8.o q s).mono ?_;rintro o i ⟨rfl,n⟩;have C:Below a.heap.size a i:=s.trans (n.mono s.size);have X:aj i (a.heap.size+1) 36 z8:=F.below F.lt n;have V:aj i (a.heap.size+1+1) 36 (g.map fj):=E.below E.lt n;have aD:=n.size;clear t a0 E R F s n a3 a4 B a6;go_wp2_with (first
    |(refine iq (by rfl) (.tmp 12) (.tmp 49) (by rfl) i.heap.size (by rfl) K.1 A.o (by rfl) (aj.new i 36 z8) (by rfl) ?_;intro L T u ag;have D:Below a.heap.size a L:=maj (C.alloc C.size (.cells z8.toArray 36)) (u.below (by simp;omega) (fun d Z=>by omega));have W:aj L (a.heap.size+1+1) 36 (g.map fj):=(V.alloc (.cells z8.toArray 36)).of_block (u.block _ (by simp;omega) (fun b=>by omega));have G:aj L (a.heap.size+1) 36 z8:=(X.alloc (.cells z8.toArray 36)).of_block (u.block _ (by simp;omega) (fun b=>by omega)))
    |(refine wpList_load_mid (by rfl) 36 (.tmp 12) (by rfl) i.heap.size 0 (by rfl) (K.1.map fj) _ (by exact T.range) Tryz.underlying36 (by rfl) (by simpa[A.o]using Tryz.infoDig) ?_)
    |(refine wpList_load_mid (by rfl) 36 (.tmp 11) (by rfl) (a.heap.size+1+1) 0 (by rfl) (g.map fj) _ (by exact W.range) Tryz.underlying36 (by rfl) (by simpa[v.o]using Tryz.infoDig) ?_))
   refine(vy K.1 g _ A.o v.o).mono ?_;rintro o a2 ⟨rfl,H⟩;rw[P.o];have S:Below a.heap.size a a2:=D.trans (H.mono D.size);have ac:aj a2 (a.heap.size+1) 36 z8:=G.below G.lt H;clear u ag T W G D H V X C;go_wp2_with (refine iq (by rfl) (.tmp 8) (.tmp 53) (by rfl) (a.heap.size+1) (by rfl) m Y (by rfl) ac (by rfl) ?_;intro aO ab ae aE);exact Qy (k:=8) (j:=9) rfl rfl ab Y rfl rfl ⟨rfl,S.trans (ae.below S.size (fun d Z=>by omega))⟩
  .rw[if_neg af];obtain⟨m,I⟩:∃m,m=Aj (1::(g++(Zq (b - d) (e - d) c f).1)):=⟨_,rfl⟩;have Y:m.length=8:=by rw[I];exact Lj _
   have P:Hd (Aj (1::(g++(Zq (b - d) (e - d) c f).1))=m):=I.symm;have A:Hd ((Zq (b - d) (e - d) c f).1.length=8):=xy f (b - d) (e - d) c;rw[P.o];clear I;have av:¬(b:Int)<d:=by omega
   have aT:(b:Int) - d=((b - d:Nat):Int):=by omega
   have b9:(e:Int) - d=((e - d:Nat):Int):=by omega
   have aS:(b:Int)<e:=by omega
   rw[show dV c=.agg (c.map fj).toArray from rfl]at M⊢;have a8:Hd (∀(h:World),BB a h->Calls _ _ _ h _):=fun h U=>M.o h (e - d) (b - d) U (by omega) (by omega) (by omega);generalize Zq (b - d) (e - d) c f=K at*;generalize ((e - d:Nat))=bb at*;generalize ((b - d:Nat))=aP at*;clear M;go_enter Tryz.func112,Tryz.ntmps112;go_wp2_with fail;refine(ah.o _).mono ?_;rintro o aI ⟨rfl,rfl⟩;go_wp2_with (first
    |(refine wpList_load_mid (by rfl) 36 (.tmp 33) (by rfl) r (z+x*8) (by rfl) (g.map fj) _ (by exact a6) Tryz.underlying36 (by rfl) (by simpa[v.o]using Tryz.infoDig) ?_)
    |(refine iq (by rfl) (.tmp 11) (.tmp 34) (by rfl) (a.heap.size+1+1) (by rfl) g v.o (by rfl) (aj.new_at _ 36 _ z8 (by simp)) (by rfl) ?_;intro q E t a0;have s:Below a.heap.size a q:=maj (B.alloc B.size (.cells z8.toArray 36)) (t.below (by simp;omega) (fun d Z=>by omega));have R:aj q a.heap.size 36 (c.map fj):=(a3.alloc (.cells z8.toArray 36)).of_block (t.block _ (by simp;omega) (fun b=>by omega));have F:aj q (a.heap.size+1) 36 z8:=(a4.alloc (.cells z8.toArray 36)).of_block (t.block _ (by simp) (fun b=>by omega)))
    |(refine wpList_load_mid (by rfl) 36 (.tmp 6) (by rfl) a.heap.size 0 (by rfl) (c.map fj) _ (by exact R.range) Tryz.underlying36 (by rfl) (by simpa[J]using Tryz.infoDig) ?_))
   have aC:q.heap.size=a.heap.size+1+1+1:=by rw[a0];simp
   refine(a8.o q s).mono ?_;rintro o i ⟨rfl,n⟩;have C:Below a.heap.size a i:=s.trans (n.mono s.size);have X:aj i (a.heap.size+1) 36 z8:=F.below F.lt n;have V:aj i (a.heap.size+1+1) 36 (g.map fj):=E.below E.lt n;have aD:=n.size;clear t a0 E R F s n a3 a4 B a6;go_wp2_with (first
    |(refine iq (by rfl) (.tmp 14) (.tmp 65) (by rfl) i.heap.size (by rfl) K.1 A.o (by rfl) (aj.new i 36 z8) (by rfl) ?_;intro L T u ag;have D:Below a.heap.size a L:=maj (C.alloc C.size (.cells z8.toArray 36)) (u.below (by simp;omega) (fun d Z=>by omega));have W:aj L (a.heap.size+1+1) 36 (g.map fj):=(V.alloc (.cells z8.toArray 36)).of_block (u.block _ (by simp;omega) (fun b=>by omega));have G:aj L (a.heap.size+1) 36 z8:=(X.alloc (.cells z8.toArray 36)).of_block (u.block _ (by simp;omega) (fun b=>by omega)))
    |(refine wpList_load_mid (by rfl) 36 (.tmp 14) (by rfl) i.heap.size 0 (by rfl) (K.1.map fj) _ (by exact T.range) Tryz.underlying36 (by rfl) (by simpa[A.o]using Tryz.infoDig) ?_)
    |(refine wpList_load_mid (by rfl) 36 (.tmp 11) (by rfl) (a.heap.size+1+1) 0 (by rfl) (g.map fj) _ (by exact W.range) Tryz.underlying36 (by rfl) (by simpa[v.o]using Tryz.infoDig) ?_))
   refine(vy g K.1 _ v.o A.o).mono ?_;rintro o a2 ⟨rfl,H⟩;rw[P.o];have S:Below a.heap.size a a2:=D.trans (H.mono D.size);have ac:aj a2 (a.heap.size+1) 36 z8:=G.below G.lt H;clear u ag T W G D H V X C;go_wp2_with (refine iq (by rfl) (.tmp 8) (.tmp 69) (by rfl) (a.heap.size+1) (by rfl) m Y (by rfl) ac (by rfl) ?_;intro aO ab ae aE);exact Qy (k:=8) (j:=9) rfl rfl ab Y rfl rfl ⟨rfl,S.trans (ae.below S.size (fun d Z=>by omega))⟩
end Go.Proofs.YtekegfbjbainhaaGreat
