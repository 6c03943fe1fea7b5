import Derived.Test.YteampbddflhngaaGreatQ01
namespace Go.Proofs.YteampbddflhngaaGreat
set_option linter.all false
set_option maxRecDepth 100000
set_option maxHeartbeats 4000000
section
open Go.Proofs.Tryz Go.RowKit
structure S5 where
 kind:Int
 a:Int
 b:Int
 c:Int
 s:ByteArray
structure Tc (w:World) (v:Value) (l:List S5):Prop where
 qy:∃ao cap,v=.slice ao l.length cap
 cells:∀k (hk:k<l.length),∃b o cap,v=.slice (some ⟨b,o,none⟩) l.length cap/\b<w.heap.size/\w.cell? ⟨b,o+k*5,none⟩=some (ι l[k].kind)/\w.cell? ⟨b,o+k*5+1,none⟩=some (ι l[k].a) ∧
  w.cell? ⟨b,o+k*5+2,none⟩=some (ι l[k].b)/\w.cell? ⟨b,o+k*5+3,none⟩=some (ι l[k].c)/\w.cell? ⟨b,o+k*5+4,none⟩=some (.string l[k].s)
 len:l.length<=281474976710656
 fits:∀x∈l,x.s.size<=281474976710656
def Tc.below{w w':World}{v:Value}{l:List S5}(h:Tc w v l)(c:μ w w'):Tc w' v l:=
 ⟨h.qy,λk e=>by
  obtain⟨b,o,d,m,a,j,i,n,g,f⟩:=h.cells k e;exact⟨b,o,d,m,yE a c.size,(zl c a j),(zl c a i),(zl c a n),(zl c a g),(zl c a f)⟩,h.len,h.fits⟩
def Tc.cell{w:World}{d:Option Addr}{n cap:Nat}{l:List S5}(h:Tc w (.slice d n cap) l)(k:Nat)(e:k<l.length):∃b o,d=some ⟨b,o,none⟩/\b<w.heap.size/\w.cell? ⟨b,o+k*5,none⟩=some (ι l[k].kind)/\w.cell? ⟨b,o+k*5+1,none⟩=some (ι l[k].a) ∧
  w.cell? ⟨b,o+k*5+2,none⟩=some (ι l[k].b)/\w.cell? ⟨b,o+k*5+3,none⟩=some (ι l[k].c)/\w.cell? ⟨b,o+k*5+4,none⟩=some (.string l[k].s):=by
 obtain⟨b,o,c,a,r⟩:=h.cells k e;simp at a;exact⟨b,o,a.1,r⟩
def Sd(l:List S5):Nat:=(l.map λx=>x.s.size).sum
def Hb(l:List S5)(k:Nat)(a:k<l.length):Sd (l.take (k+1))=Sd (l.take k)+l[k].s.size:=by
 unfold Sd;rw[yP a,vg,List.sum_append];simp
def lA(l:List S5):Bool:=decide (l.length+Sd l<=1048576)
def O8(l:List S5)(k:Nat):Sd (l.take k)<=Sd l:=by
 have:Sd l=Sd (l.take k)+Sd (l.drop k):=by unfold Sd;rw[←List.sum_append,←vg,jx]
 omega
def MF(w:World)(v:Value)(l:List S5)(h:Tc w v l):
  Calls prog 28 #[v] w λe t=>e=ε (.bool (lA l))/\t=w:=by
 obtain⟨A,j,rfl⟩:=h.qy;have g:=Ry h.fits;by_cases f:1048576<l.length
 .have c:Hid (lA l=false):=by unfold Hid lA;rw[decide_eq_false_iff_not];omega
  go_enter func28,ntmps28;go_wp2;go_ret;exact⟨by rw[c.out];rfl,rfl⟩
 go_enter func28,ntmps28;go_wp2;go_loop [3,4] (λq m=>∃k n:Nat,k<=l.length/\m=ι k/\q=ι n/\n<=1048576/\Hid (n=l.length+Sd (l.take k))) (λ_ i=>l.length-(intOf i).toNat);exact⟨0,l.length,zv _,rfl,rfl,by omega,by simp[Hid,Sd]⟩;obtain⟨k,n,y,rfl,rfl,u,H⟩:=hrel;by_cases a:k<l.length
 .obtain⟨b,o,rfl,z,_,_,_,_,B⟩:=h.cell k a;have p:=g.out _ (zt a);have d:Hid (n+l[k].s.size=l.length+Sd (l.take (k+1))):=by rw[Hid,Hb l k a,H.out];omega
  generalize l[k]=x at *;generalize x.s=s at *;by_cases r:1048576<n+s.size
  .have c:Hid (lA l=false):=by unfold Hid lA;rw[decide_eq_false_iff_not];have:=d.out;have:=O8 l (k+1);omega
   go_wp2;go_ret;exact⟨by rw[c.out];rfl,rfl⟩
  go_wp2;go_round;exact⟨k+1,n+s.size,by omega,by go_num,by go_num,by omega,d⟩;simp[intOf];omega
 have c:Hid (lA l=true):=by unfold Hid lA;rw[decide_eq_true_iff];have:=H.out;rw[xk (by omega)] at this;omega
 go_wp2;go_ret;exact⟨by rw[c.out];rfl,rfl⟩
def Q7(w:World)(k:Int):
  Calls prog 29 #[ι k] w λe a=>e=ε (.bool (k == 9||k == 17))/\a=w:=by
 go_enter func29,ntmps29;cases c:(k == 9)
 .cases b:(k == 17)
  .go_wp2;go_ret;exact⟨rfl,rfl⟩
  go_wp2;go_ret;exact⟨rfl,rfl⟩
 go_wp2;go_ret;exact⟨rfl,rfl⟩
def QF:(prog.info? 67).map (λi=>(i.zero,i.size,i.bytes))=some (some (.agg #[ι 0,ι 0,ι 0,ι 0,.string ByteArray.empty]),5,48):=by kernel_rfl
def dV(l:List S5):List Value:=l.flatMap λx=>[ι x.kind,ι x.a,ι x.b,ι x.c,.string x.s]
def OZ(l:List S5)(x:S5):dV (l++[x])=dV l++[ι x.kind,ι x.a,ι x.b,ι x.c,.string x.s]:=by simp[dV]
def By:∀(l:List S5) (k:Nat) (b:k<l.length),(dV l)[k*5]?=some (ι l[k].kind)/\(dV l)[k*5+1]?=some (ι l[k].a)/\(dV l)[k*5+2]?=some (ι l[k].b)/\(dV l)[k*5+3]?=some (ι l[k].c)/\(dV l)[k*5+4]?=some (.string l[k].s)
 |[],k,b=>by simp at b
 |a::l,0,_=>by simp[dV]
 |a::l,k+1,b=>by
  have:=By l k (by simpa using b);simp only[dV,uA] at this ⊢;rw[show(k+1)*5=k*5+1+1+1+1+1 from by omega,show k*5+1+1+1+1+1+1=k*5+1+1+1+1+1+1 from rfl,show k*5+1+1+1+1+1+2=k*5+2+1+1+1+1+1 from by omega,show k*5+1+1+1+1+1+3=k*5+3+1+1+1+1+1 from by omega,show k*5+1+1+1+1+1+4=k*5+4+1+1+1+1+1 from by omega];simpa using this
def Tc.own{w:World}{b:Nat}{v:Value}{l:List S5}(h:w.ownsRow b 67 5 v l.length (dV l))(f:l.length<=281474976710656)(i:∀x∈l,x.s.size<=281474976710656):Tc w v l:=by
 refine⟨zq h,λk d=>?_,f,i⟩;obtain⟨g,c,p,_,m,a⟩:=yw h (by omega);obtain⟨o,n,q,j,e⟩:=By l k d;refine⟨g,0,c,p,m,?_,?_,?_,?_,?_⟩;rw[vn];exact a _ _ o;rw[vn];exact a _ _ n;rw[vn];exact a _ _ q;rw[vn];exact a _ _ j;rw[vn];exact a _ _ e
def N4{l:List S5}{x:S5}(h:x∈l):x.s.size<=Sd l:=by
 induction l with
 |nil=>cases h
 |cons a l b=>
  simp only[Sd,xZ,vN] at b ⊢;rcases zy.1 h with rfl|h;omega;have:=b h;omega
def TL(w:World)(v:Value)(b:List Int):Prop:=∃a,w.ownsRow a 3 1 v b.length (b.map (Value.int .i64))
def TL.qy{w:World}{v:Value}{l:List Int}(h:TL w v l):∃c a,v=.slice c l.length a:=by obtain⟨b,h⟩:=h;exact zq h
def TL.cell{w:World}{c:Option Addr}{n cap:Nat}{a:List Int}(h:TL w (.slice c n cap) a)(k:Nat)(i:k<a.length):∃g,c=some ⟨g,0,none⟩/\g<w.heap.size/\w.cell? ⟨g,k,none⟩=some (ι a[k]):=by
 obtain⟨f,l⟩:=h;obtain⟨g,e,d,_,j,b⟩:=yw l (by omega);simp at d;exact⟨g,d.1,j,b k _ (by simp[i])⟩
def SY(a:List Int)(k:Int):Prop:=k=9∨k=17∨k∈a
def Db(l:List S5)(c:List Int):Prop:=∀W b a,Tc W b a->(∀x∈a,x∈l/\SY c x.kind)->a.length<=1048576->(∀x∈a,x.s.size<=1048576)->Calls prog 31 #[b] W λe d=>e=ε (ι (-1))/\μ W d
def I2(w:World)(v:Value)(l:List S5)(h:Tc w v l)(kv:Value)(p:List Int)(F:TL w kv p)(av:p.length<=20)(I:Db l p):
  Calls prog 15 #[v,.bool false,kv] w λe E=>e=ε (.bool true)/\μ w E:=by
 obtain⟨i0,hi,ad,Z,ab⟩:=info_parts QF;obtain⟨ao,az,rfl⟩:=h.qy;obtain⟨ax,aj,rfl⟩:=F.qy;have U:=Ry I;have g:=Ry (MF w _ l h);have t:lA l=decide (l.length+Sd l<=1048576):=rfl;clear I;cases s:lA l
 .rw[s] at g;clear t s;go_enter func15,ntmps15;go_wp2_with (go_at_call 28;refine g.out.mono ?_;rintro e E ⟨rfl,r⟩;obtain rfl:=r.symm;clear g)
  go_ret;exact⟨rfl,zp _ _⟩
 rw[s] at g t;have P:=of_decide_eq_true t.symm;have HF:Hid (∀x∈l,x.s.size<=1048576):=λx u=>by have:=N4 u;omega
 have ay:l.length<=1048576:=by omega
 clear t s P;go_enter func15,ntmps15;go_wp2_with (go_at_call 28;refine g.out.mono ?_;rintro e E ⟨rfl,r⟩;obtain rfl:=r.symm;clear g)
 go_loopw [8,9] (λv8 v9 wr=>∃(k:Nat) (a:List S5),k<=l.length/\v9=ι k/\a.length<=k/\μ w wr/\wr.ownsRow w.heap.size 67 5 v8 a.length (dV a)/\Hid (∀x∈a,x∈l/\SY p x.kind)) (λ_ i _=>l.length-(intOf i).toNat);exact⟨0,[],zv _,rfl,zf _,zp _ _,yW _ _ _ _,λx u=>by cases u⟩;obtain⟨k,a,hk,rfl,a1,d,f,B⟩:=hrel;obtain⟨aw,ai,rfl⟩:=zq f;have an:=d.size;by_cases G:k<l.length
 .obtain⟨b,o,rfl,C,h0,h1,h2,h3,h4⟩:=h.cell k G;have M:=zl d C h0;have ac:=zl d C h1;have W:=zl d C h2;have aa:=zl d C h3;have Y:=zl d C h4;have m:b<wr.heap.size:=by omega
  have HM:=Ry (zt G);clear h0 h1 h2 h3 h4;generalize l[k]=x at *;obtain⟨K,rfl⟩:∃K,K=wr:=⟨wr,rfl⟩;go_wp2_with (go_at_call 29;refine(Q7 _ _).mono ?_;rintro e E ⟨rfl,r⟩;obtain rfl:=r.symm)
  go_loopw [11,13] (λO L wj=>∃(j:Nat) (D:Bool),j<=p.length/\L=ι j/\O=.bool D/\μ K wj/\Hid (D=true->SY p x.kind)) (λ_ i _=>p.length-(intOf i).toNat);exact⟨0,_,zv _,rfl,rfl,zp _ _,(by intro h;simp at h;unfold SY;rcases h with h|h<;>simp[h])⟩;obtain⟨j,D,hj,rfl,rfl,c,HB⟩:=hrel;have n:=R5 d c;have al:=c.size;by_cases H:j<p.length
  .obtain⟨gk,rfl,V,J⟩:=F.cell j H;have a2:=zl n V J;have a3:gk<wr.heap.size:=by have:=n.size;omega
   have S:=Ry (zt H);clear J;generalize p[j]=q at *;cases D
   .cases hq:(x.kind == q)
    .go_wp2;go_roundw;exact⟨j+1,false,by omega,by go_num,rfl,(by go_grown),λh=>by cases h⟩;simp[intOf];omega
    have ae:Hid (SY p x.kind):=by have h':=eq_of_beq hq;subst h';exact ze (ze S.out)
    go_wp2;go_roundw;exact⟨j+1,true,by omega,by go_num,rfl,(by go_grown),λ_=>ae.out⟩;simp[intOf];omega
   go_wp2;go_roundw;exact⟨j+1,true,by omega,by go_num,rfl,(by go_grown),HB⟩;simp[intOf];omega
  cases D
  .go_wp2;go_roundw;exact⟨k+1,a,by omega,by go_num,by omega,n,zB f c,B⟩;simp[intOf];omega
  have ar:=zl c m M;have aq:=zl c m ac;have au:=zl c m W;have ag:=zl c m aa;have am:=zl c m Y;have ak:b<wr.heap.size:=by omega
  have z:=zB f c;have af:Hid (∀y∈a++[x],y∈l/\SY p y.kind):=λy A=>by
   rcases zW.1 A with A|A;exact B.out y A;simp at A;subst A;exact⟨HM.out,HB.out rfl⟩
  clear HB B;go_wp2_with (at_builtin;refine kA _ _ [ι x.kind,ι x.a,ι x.b,ι x.c,.string x.s] _ rfl (.tmp 54) (.tmp 59) 22 rfl w.heap.size 67 i0 _ 5 48 underlying22 hi ad Z ab rfl (by decide) _ _ _ rfl z (zp _ _) _ _ rfl (by simp) rfl (by simp[Value.oneCell']) (by omega) (by omega) n.size ?_;intro v' w2 Q R N T a0 ah;clear N T)
  go_roundw;exact⟨k+1,a++[x],by omega,by go_num,(by simp;omega),n.trans R,(by rw[OZ];simpa using Q),af⟩;simp[intOf];omega
 have ap:k=l.length:=by omega
 go_wp2_with (go_at_call 31;refine(U.out _ _ a (Tc.own f (by omega) (λx u=>by have:=HF.out x (B.out x u).1;omega)) B.out (by omega) (λx u=>HF.out x (B.out x u).1)).mono ?_;rintro e E ⟨rfl,X⟩)
 go_ret;exact⟨rfl,R5 d X⟩
end
section
open Go.Proofs.Tryz Go.RowKit
variable {lo:Nat}
def Dj(w:World)(o vb:Value)(l:κ)(j:R7 lo w o l){f:Nat}(p:R7 f w vb l)(E:l.length<=281474976710656):
  Calls prog 44 #[o,vb] w λe v=>e=ε (.bool true)/\μ w v:=by
 obtain⟨C,z,rfl⟩:=j.qy;obtain⟨y,q,rfl⟩:=p.qy;go_enter func44,ntmps44;go_wp2;go_loopw [5] (λi wr=>∃k:Nat,k<=l.length/\i=ι k/\μ w wr) (λi _=>l.length-(intOf i).toNat);exact⟨0,zv _,rfl,zp _ _⟩;obtain⟨k,B,rfl,a⟩:=hrel;have r:=a.size;by_cases c:k<l.length
 .obtain⟨g,rfl,s,d⟩:=j.cell k c;obtain⟨u,rfl,h,b⟩:=p.cell k c;have t:=zl a s d;have m:=zl a h b;have A:g<wr.heap.size:=by omega
  have n:u<wr.heap.size:=by omega
  have D:=jF (rfl:l[k]=l[k]);clear d b;generalize l[k]=x at *;go_wp2;go_quiet (fail)
  go_wp2;go_roundw;exact⟨k+1,by omega,by go_num,zI a _⟩;simp[intOf];omega
 go_wp2;go_ret;exact⟨rfl,a⟩
end
section
open Go.Proofs.Tryz Go.RowKit
def Tb(c:Int)(s:ByteArray):Bool:=s.data.toList.any λb=>(b.toNat:Int) == c
def nC(c:Int)(s:ByteArray)(w:World)(hs:s.size<=1000):
  Calls prog 105 #[.int .u8 c,.string s] w λe m=>e=ε (.bool (Tb c s))/\m=w:=by
 go_enter func105,ntmps105;go_wp2;go_loop [5] (λi=>∃k:Nat,k<=s.size/\i=ι k/\Hid (Tb c s=(s.data.toList.drop k).any λb=>(b.toNat:Int) == c)) (λi=>s.size-(intOf i).toNat);exact⟨0,zv _,rfl,rfl⟩;obtain⟨k,n,rfl,H⟩:=hrel;by_cases f:k<s.size
 .have g:k<s.data.toList.length:=by rw[pf];exact f
  have d:=eQ s.data.toList (λb=>(b.toNat:Int) == c) k g;have h:s.data.toList[k]=s[k]:=rfl;rw[h] at d;have l:Hid (Tb c s=(((s[k].toNat:Int) == c)||(s.data.toList.drop (k+1)).any λb=>(b.toNat:Int) == c)):=by rw[Hid,H.out,d]
  cases j:((s[k].toNat:Int) == c)
  .have a:Hid (Tb c s=(s.data.toList.drop (k+1)).any λb=>(b.toNat:Int) == c):=by rw[Hid,l.out,j];rfl
   go_wp2;go_round;exact⟨k+1,by omega,by go_num,a⟩;simp[intOf];omega
  have a:Hid (Tb c s=true):=by rw[Hid,l.out,j];rfl
  go_wp2;go_ret;exact⟨by rw[a.out];rfl,rfl⟩
 have a:Hid (Tb c s=false):=by rw[Hid,H.out,ua (by rw[pf];show s.size<=k;omega)];rfl
 go_wp2;go_ret;exact⟨by rw[a.out];rfl,rfl⟩
def nR(p:Int->Bool)(s:ByteArray)(h:(List.range 256).all (λn=>Tb (n:Int) s == p (n:Int))=true)(c:Int)(a:0<=c)(b:c<256):Tb c s=p c:=by
 obtain⟨n,rfl⟩:=Int.eq_ofNat_of_zero_le a;have:=fL.1 h n (by simp;omega);simpa using this
def Th(c:Int):Bool:=c == 40||c == 41||c == 44||c == 46||c == 33
def mK(c:Int):Bool:=yY c||vQ c
def Pj(c:Int)(b:0<=c)(a:c<256):Tb c {data:=#[32,10]}=qs c:=nR qs _ (by decide +kernel) c b a
def LZ(c:Int)(b:0<=c)(a:c<256):Tb c {data:=#[48,49,50,51,52,53,54,55,56,57]}=yQ c:=nR yQ _ (by decide +kernel) c b a
def Kz(c:Int)(b:0<=c)(a:c<256):Tb c {data:=#[97,98,99,100,101,102,103,104,105,106,107,108,109,110,111,112,113,114,115,116,117,118,119,120,121,122]}=yY c:=nR yY _ (by decide +kernel) c b a
def KA(c:Int)(b:0<=c)(a:c<256):Tb c {data:=#[65,66,67,68,69,70,71,72,73,74,75,76,77,78,79,80,81,82,83,84,85,86,87,88,89,90]}=vQ c:=nR vQ _ (by decide +kernel) c b a
def Ny(c:Int)(b:0<=c)(a:c<256):Tb c {data:=#[97,98,99,100,101,102,103,104,105,106,107,108,109,110,111,112,113,114,115,116,117,118,119,120,121,122,65,66,67,68,69,70,71,72,73,74,75,76,77,78,79,80,81,82,83,84,85,86,87,88,89,90]}=mK c:=nR mK _ (by decide +kernel) c b a
def OY(c:Int)(b:0<=c)(a:c<256):Tb c {data:=#[97,98,99,100,101,102,103,104,105,106,107,108,109,110,111,112,113,114,115,116,117,118,119,120,121,122,65,66,67,68,69,70,71,72,73,74,75,76,77,78,79,80,81,82,83,84,85,86,87,88,89,90,48,49,50,51,52,53,54,55,56,57]}=Sb c:=nR Sb _ (by decide +kernel) c b a
def Q0(c:Int)(b:0<=c)(a:c<256):Tb c {data:=#[40,41,44,46,33]}=Th c:=nR Th _ (by decide +kernel) c b a
def rh(c:Int)(w:World)(d:0<=c)(b:c<256):Calls prog 105 #[.int .u8 c,.string {data:=#[32,10]}] w λe a=>e=ε (.bool (qs c))/\a=w:=by
 have:=nC c {data:=#[32,10]} w (by decide);rw[Pj c d b] at this;exact this
def mh(c:Int)(w:World)(d:0<=c)(b:c<256):Calls prog 105 #[.int .u8 c,.string {data:=#[48,49,50,51,52,53,54,55,56,57]}] w λe a=>e=ε (.bool (yQ c))/\a=w:=by
 have:=nC c {data:=#[48,49,50,51,52,53,54,55,56,57]} w (by decide);rw[LZ c d b] at this;exact this
def L4(c:Int)(w:World)(d:0<=c)(b:c<256):Calls prog 105 #[.int .u8 c,.string {data:=#[97,98,99,100,101,102,103,104,105,106,107,108,109,110,111,112,113,114,115,116,117,118,119,120,121,122]}] w λe a=>e=ε (.bool (yY c))/\a=w:=by
 have:=nC c {data:=#[97,98,99,100,101,102,103,104,105,106,107,108,109,110,111,112,113,114,115,116,117,118,119,120,121,122]} w (by decide);rw[Kz c d b] at this;exact this
def Hx(c:Int)(w:World)(d:0<=c)(b:c<256):Calls prog 105 #[.int .u8 c,.string {data:=#[65,66,67,68,69,70,71,72,73,74,75,76,77,78,79,80,81,82,83,84,85,86,87,88,89,90]}] w λe a=>e=ε (.bool (vQ c))/\a=w:=by
 have:=nC c {data:=#[65,66,67,68,69,70,71,72,73,74,75,76,77,78,79,80,81,82,83,84,85,86,87,88,89,90]} w (by decide);rw[KA c d b] at this;exact this
def mn(c:Int)(w:World)(d:0<=c)(b:c<256):Calls prog 105 #[.int .u8 c,.string {data:=#[97,98,99,100,101,102,103,104,105,106,107,108,109,110,111,112,113,114,115,116,117,118,119,120,121,122,65,66,67,68,69,70,71,72,73,74,75,76,77,78,79,80,81,82,83,84,85,86,87,88,89,90]}] w λe a=>e=ε (.bool (mK c))/\a=w:=by
 have:=nC c {data:=#[97,98,99,100,101,102,103,104,105,106,107,108,109,110,111,112,113,114,115,116,117,118,119,120,121,122,65,66,67,68,69,70,71,72,73,74,75,76,77,78,79,80,81,82,83,84,85,86,87,88,89,90]} w (by decide);rw[Ny c d b] at this;exact this
def fP(c:Int)(w:World)(d:0<=c)(b:c<256):Calls prog 105 #[.int .u8 c,.string {data:=#[97,98,99,100,101,102,103,104,105,106,107,108,109,110,111,112,113,114,115,116,117,118,119,120,121,122,65,66,67,68,69,70,71,72,73,74,75,76,77,78,79,80,81,82,83,84,85,86,87,88,89,90,48,49,50,51,52,53,54,55,56,57]}] w λe a=>e=ε (.bool (Sb c))/\a=w:=by
 have:=nC c {data:=#[97,98,99,100,101,102,103,104,105,106,107,108,109,110,111,112,113,114,115,116,117,118,119,120,121,122,65,66,67,68,69,70,71,72,73,74,75,76,77,78,79,80,81,82,83,84,85,86,87,88,89,90,48,49,50,51,52,53,54,55,56,57]} w (by decide);rw[OY c d b] at this;exact this
def kr(c:Int)(w:World)(d:0<=c)(b:c<256):Calls prog 105 #[.int .u8 c,.string {data:=#[40,41,44,46,33]}] w λe a=>e=ε (.bool (Th c))/\a=w:=by
 have:=nC c {data:=#[40,41,44,46,33]} w (by decide);rw[Q0 c d b] at this;exact this
def kW(s:ByteArray)(w:World)(h:0<s.size):
  Calls prog 184 #[.string s] w λe a=>e=ε (.bool (yY (RA s 0)))/\a=w:=by
 have b:=fV s 0;rw[qF h] at b ⊢;go_enter func184,ntmps184;go_wp2_with (go_at_call 105;refine(L4 _ _ (by omega) (by omega)).mono ?_;rintro e a ⟨rfl,rfl⟩)
 go_ret;exact⟨rfl,rfl⟩
def wI(s:ByteArray)(w:World)(h:0<s.size):
  Calls prog 154 #[.string s] w λe a=>e=ε (.bool (vQ (RA s 0)))/\a=w:=by
 have b:=fV s 0;rw[qF h] at b ⊢;go_enter func154,ntmps154;go_wp2_with (go_at_call 105;refine(Hx _ _ (by omega) (by omega)).mono ?_;rintro e a ⟨rfl,rfl⟩)
 go_ret;exact⟨rfl,rfl⟩
def mU(s:ByteArray)(w:World)(h:0<s.size):
  Calls prog 185 #[.string s] w λe a=>e=ε (.bool (Sb (RA s 0)))/\a=w:=by
 have b:=fV s 0;rw[qF h] at b ⊢;go_enter func185,ntmps185;go_wp2_with (go_at_call 105;refine(fP _ _ (by omega) (by omega)).mono ?_;rintro e a ⟨rfl,rfl⟩)
 go_ret;exact⟨rfl,rfl⟩
def Cb(s:ByteArray)(h:1<s.size):((s.extract 0 2).toList == [58,45])=(decide (RA s 0=58)&&decide (RA s 1=45)):=by
 rw[lx,qF (by omega:0<s.size),qF h];have d:(s.extract 0 2).data.toList=[s[0],s[1]]:=by
  rw[ByteArray.data_extract,Array.toList_extract];obtain⟨⟨l⟩⟩:=s;match l,h with
  |a::b::r,_=>rfl
 rw[d];have e:∀(x:UInt8) (n:UInt8),(x == n)=decide ((x.toNat:Int)=(n.toNat:Int)):=λx n=>by
  by_cases c:x=n;subst c;simp;rw[beq_eq_false_iff_ne.2 c];symm;rw[decide_eq_false_iff_not];intro f;exact c (UInt8.toNat_inj.1 (by omega))
 simp only[List.cons_beq_cons,e,List.nil_beq_eq,List.isEmpty_nil,Bool.and_true];rfl
def xv(s:ByteArray):Nat:=yr s 0 (xp (RA s 0) (RA s 1))
def Ii(s:ByteArray)(w:World)(_:s.size<=500)(d:1<s.size)(b:RA s 0=58)(c:RA s 1=45):
  Calls prog 106 #[.string s] w λe g=>e=ε (ι (xv s))/\g=w:=by
 have f:Hid (xv s=2):=by unfold Hid xv;rw[b,c];rfl
 have a:=Cb s d;rw[b,c] at a;have h:((s.extract 0 2).toList == [58,45])=true:=a;clear a b c;go_enter func106,ntmps106;go_wp2_with fail
 go_ret;exact⟨by rw[f.out];rfl,rfl⟩
def ro(s:ByteArray):Prop:=¬1<s.size∨(1<s.size/\((s.extract 0 2).toList == [58,45])=false)
def KL(s:ByteArray)(h:¬(RA s 0=58/\RA s 1=45)):ro s:=by
 by_cases a:1<s.size;right;refine⟨a,?_⟩;rw[Cb s a];simp only[Bool.and_eq_false_iff,decide_eq_false_iff_not];omega;left;exact a
def Ht(s:ByteArray)(w:World)(hs:s.size<=500)(g:0<s.size)(b:ro s)(h:Th (RA s 0)=true):
  Calls prog 106 #[.string s] w λe d=>e=ε (ι (1))/\d=w:=by
 have c:=fV s 0;have a:=qF g;rw[a] at c h;clear a;rcases b with b|⟨f,b⟩
 all_goals
  go_enter func106,ntmps106;go_wp2_with (go_at_call 105;refine(kr _ _ (by omega) (by omega)).mono ?_;rintro e d ⟨rfl,rfl⟩)
  go_ret;exact⟨rfl,rfl⟩
def J4(s:ByteArray)(w:World)(hs:s.size<=500)(o:0<s.size)(i:ro s)(h:Th (RA s 0)=false)(n:yQ (RA s 0)=true):
  Calls prog 106 #[.string s] w λe a=>e=ε (ι (yJ yQ s 0))/\a=w:=by
 have l:=fV s 0;have j:=qF o;rw[j] at l h n;rcases i with i|⟨m,i⟩
 all_goals
  go_enter func106,ntmps106;go_wp2_with (first|(go_at_call 105;with_reducible refine(kr _ _ (by omega) (by omega)).mono ?_;rintro e a ⟨rfl,rfl⟩)|(go_at_call 105;with_reducible refine(mh _ _ (by omega) (by omega)).mono ?_;rintro e a ⟨rfl,rfl⟩)|(go_at_call 105;with_reducible refine(mn _ _ (by omega) (by omega)).mono ?_;rintro e a ⟨rfl,rfl⟩)|(go_at_call 105;with_reducible refine(fP _ _ (by omega) (by omega)).mono ?_;rintro e a ⟨rfl,rfl⟩))
  go_loop [3] (λt=>∃k:Nat,k<=s.size/\t=ι k/\Hid (yJ yQ s 0=yJ yQ s k)) (λt=>s.size-(intOf t).toNat);exact⟨0,zv _,rfl,rfl⟩;obtain⟨k,p,rfl,H⟩:=hrel;by_cases c:k<s.size
  .have g:=qF c;have f:=fV s k;cases b:yQ (RA s k)
   .have d:Hid (yJ yQ s 0=k):=by rw[Hid.out H,m5 b];rfl
    rw[g] at b f;go_wp2_with (first|(go_at_call 105;with_reducible refine(kr _ _ (by omega) (by omega)).mono ?_;rintro e a ⟨rfl,rfl⟩)|(go_at_call 105;with_reducible refine(mh _ _ (by omega) (by omega)).mono ?_;rintro e a ⟨rfl,rfl⟩)|(go_at_call 105;with_reducible refine(mn _ _ (by omega) (by omega)).mono ?_;rintro e a ⟨rfl,rfl⟩)|(go_at_call 105;with_reducible refine(fP _ _ (by omega) (by omega)).mono ?_;rintro e a ⟨rfl,rfl⟩))
    go_ret;exact⟨by rw[Hid.out d];rfl,rfl⟩
   have d:Hid (yJ yQ s 0=yJ yQ s (k+1)):=by rw[Hid.out H,lN c b];rfl
   rw[g] at b f;go_wp2_with (first|(go_at_call 105;with_reducible refine(kr _ _ (by omega) (by omega)).mono ?_;rintro e a ⟨rfl,rfl⟩)|(go_at_call 105;with_reducible refine(mh _ _ (by omega) (by omega)).mono ?_;rintro e a ⟨rfl,rfl⟩)|(go_at_call 105;with_reducible refine(mn _ _ (by omega) (by omega)).mono ?_;rintro e a ⟨rfl,rfl⟩)|(go_at_call 105;with_reducible refine(fP _ _ (by omega) (by omega)).mono ?_;rintro e a ⟨rfl,rfl⟩))
   go_round;exact⟨k+1,by omega,by go_num,d⟩;simp[intOf];omega
  have d:Hid (yJ yQ s 0=k):=by rw[Hid.out H,gV c];rfl
  go_wp2_with (first|(go_at_call 105;with_reducible refine(kr _ _ (by omega) (by omega)).mono ?_;rintro e a ⟨rfl,rfl⟩)|(go_at_call 105;with_reducible refine(mh _ _ (by omega) (by omega)).mono ?_;rintro e a ⟨rfl,rfl⟩)|(go_at_call 105;with_reducible refine(mn _ _ (by omega) (by omega)).mono ?_;rintro e a ⟨rfl,rfl⟩)|(go_at_call 105;with_reducible refine(fP _ _ (by omega) (by omega)).mono ?_;rintro e a ⟨rfl,rfl⟩))
  go_ret;exact⟨by rw[Hid.out d];rfl,rfl⟩
def Hs(s:ByteArray)(w:World)(hs:s.size<=500)(p:0<s.size)(i:ro s)(h:Th (RA s 0)=false)(o:yQ (RA s 0)=false)(m:mK (RA s 0)=true):
  Calls prog 106 #[.string s] w λe a=>e=ε (ι (yJ Sb s 0))/\a=w:=by
 have l:=fV s 0;have j:=qF p;rw[j] at l h o m;rcases i with i|⟨n,i⟩
 all_goals
  go_enter func106,ntmps106;go_wp2_with (first|(go_at_call 105;with_reducible refine(kr _ _ (by omega) (by omega)).mono ?_;rintro e a ⟨rfl,rfl⟩)|(go_at_call 105;with_reducible refine(mh _ _ (by omega) (by omega)).mono ?_;rintro e a ⟨rfl,rfl⟩)|(go_at_call 105;with_reducible refine(mn _ _ (by omega) (by omega)).mono ?_;rintro e a ⟨rfl,rfl⟩)|(go_at_call 105;with_reducible refine(fP _ _ (by omega) (by omega)).mono ?_;rintro e a ⟨rfl,rfl⟩))
  go_loop [3] (λt=>∃k:Nat,k<=s.size/\t=ι k/\Hid (yJ Sb s 0=yJ Sb s k)) (λt=>s.size-(intOf t).toNat);exact⟨0,zv _,rfl,rfl⟩;obtain⟨k,q,rfl,H⟩:=hrel;by_cases c:k<s.size
  .have g:=qF c;have f:=fV s k;cases b:Sb (RA s k)
   .have d:Hid (yJ Sb s 0=k):=by rw[Hid.out H,m5 b];rfl
    rw[g] at b f;go_wp2_with (first|(go_at_call 105;with_reducible refine(kr _ _ (by omega) (by omega)).mono ?_;rintro e a ⟨rfl,rfl⟩)|(go_at_call 105;with_reducible refine(mh _ _ (by omega) (by omega)).mono ?_;rintro e a ⟨rfl,rfl⟩)|(go_at_call 105;with_reducible refine(mn _ _ (by omega) (by omega)).mono ?_;rintro e a ⟨rfl,rfl⟩)|(go_at_call 105;with_reducible refine(fP _ _ (by omega) (by omega)).mono ?_;rintro e a ⟨rfl,rfl⟩))
    go_ret;exact⟨by rw[Hid.out d];rfl,rfl⟩
   have d:Hid (yJ Sb s 0=yJ Sb s (k+1)):=by rw[Hid.out H,lN c b];rfl
   rw[g] at b f;go_wp2_with (first|(go_at_call 105;with_reducible refine(kr _ _ (by omega) (by omega)).mono ?_;rintro e a ⟨rfl,rfl⟩)|(go_at_call 105;with_reducible refine(mh _ _ (by omega) (by omega)).mono ?_;rintro e a ⟨rfl,rfl⟩)|(go_at_call 105;with_reducible refine(mn _ _ (by omega) (by omega)).mono ?_;rintro e a ⟨rfl,rfl⟩)|(go_at_call 105;with_reducible refine(fP _ _ (by omega) (by omega)).mono ?_;rintro e a ⟨rfl,rfl⟩))
   go_round;exact⟨k+1,by omega,by go_num,d⟩;simp[intOf];omega
  have d:Hid (yJ Sb s 0=k):=by rw[Hid.out H,gV c];rfl
  go_wp2_with (first|(go_at_call 105;with_reducible refine(kr _ _ (by omega) (by omega)).mono ?_;rintro e a ⟨rfl,rfl⟩)|(go_at_call 105;with_reducible refine(mh _ _ (by omega) (by omega)).mono ?_;rintro e a ⟨rfl,rfl⟩)|(go_at_call 105;with_reducible refine(mn _ _ (by omega) (by omega)).mono ?_;rintro e a ⟨rfl,rfl⟩)|(go_at_call 105;with_reducible refine(fP _ _ (by omega) (by omega)).mono ?_;rintro e a ⟨rfl,rfl⟩))
  go_ret;exact⟨by rw[Hid.out d];rfl,rfl⟩
def Qy(s:ByteArray)(w:World)(hs:s.size<=500)(j:0<s.size)(b:ro s)(h:Th (RA s 0)=false)(i:yQ (RA s 0)=false)(f:mK (RA s 0)=false):
  Calls prog 106 #[.string s] w λe a=>e=ε (ι (0))/\a=w:=by
 have d:=fV s 0;have c:=qF j;rw[c] at d h i f;rcases b with b|⟨g,b⟩
 all_goals
  go_enter func106,ntmps106;go_wp2_with (first|(go_at_call 105;with_reducible refine(kr _ _ (by omega) (by omega)).mono ?_;rintro e a ⟨rfl,rfl⟩)|(go_at_call 105;with_reducible refine(mh _ _ (by omega) (by omega)).mono ?_;rintro e a ⟨rfl,rfl⟩)|(go_at_call 105;with_reducible refine(mn _ _ (by omega) (by omega)).mono ?_;rintro e a ⟨rfl,rfl⟩)|(go_at_call 105;with_reducible refine(fP _ _ (by omega) (by omega)).mono ?_;rintro e a ⟨rfl,rfl⟩))
  go_ret;exact⟨rfl,rfl⟩
def Tf(s:ByteArray)(w:World)(hs:s.size<=500)(f:0<s.size):
  Calls prog 106 #[.string s] w λe k=>e=ε (ι (xv s))/\k=w:=by
 by_cases a:RA s 0=58/\RA s 1=45;refine Ii s w hs ?_ a.1 a.2;false_or_by_contra;rename_i d;rw[pq d] at a;omega
 have d:=KL s a;cases h:Th (RA s 0);have i:dL (RA s 0)=0:=by
  simp only[Th,n8,beq_eq_false_iff_ne] at h;unfold dL;simp[h]
 cases c:yQ (RA s 0);cases b:mK (RA s 0);have:=Qy s w hs f d h c b;have e:xv s=0:=by
  simp only[mK,n8] at b;unfold xv xp;simp[b.1,b.2,c,a,i,yr]
 rw[e];exact this;have:=Hs s w hs f d h c b;have e:xv s=yJ Sb s 0:=by
  unfold xv xp;simp only[mK,fu] at b;cases g:yY (RA s 0);rw[g] at b;simp at b;simp[b,yr];simp[yr]
 rw[e];exact this;have:=J4 s w hs f d h c;have e:xv s=yJ yQ s 0:=by
  have g:yY (RA s 0)=false:=by simp[yQ,yY] at c ⊢;omega
  have j:vQ (RA s 0)=false:=by simp[yQ,vQ] at c ⊢;omega
  unfold xv xp;simp[g,j,c,yr]
 rw[e];exact this;have:=Ht s w hs f d h;have e:xv s=1:=by
  unfold xv xp;simp only[Th,fu,beq_iff_eq] at h;rcases h with (((h|h)|h)|h)|h<;>rw[h]<;>rfl
 rw[e];exact this
end
section
open Go.Proofs.Tryz Go.RowKit
variable {n:Nat}{s:ByteArray}{o:Option (κ)}
def xw:Nat->ByteArray->Option (κ)
 |0,_=>some []
 |n+1,s=>if s.size=0 then some [] else if qs (RA s 0) then xw n (s.extract 1 s.size) else if xv s=0 then none else if 6<xv s then none
  else(xw n (s.extract (xv s) s.size)).map (s.extract 0 (xv s)::·)
def io(h:s.size=0):xw n s=some []:=by cases n<;>simp[xw,h]
def FK(h:0<s.size)(a:qs (RA s 0)=true):xw (n+1) s=xw n (s.extract 1 s.size):=by simp[xw,Nat.ne_of_gt h,a]
def ir(h:0<s.size)(b:qs (RA s 0)=false)(a:xv s=0∨6<xv s):xw (n+1) s=none:=by
 simp only[xw,za (Nat.ne_of_gt h),b];rcases a with a|a;simp[a];simp[a]
def Da(h:0<s.size)(c:qs (RA s 0)=false)(b:xv s≠0)(a:¬6<xv s):xw (n+1) s=(xw n (s.extract (xv s) s.size)).map (s.extract 0 (xv s)::·):=by
 simp[xw,Nat.ne_of_gt h,c,b,a]
def L6(h:6<xv s):RA s 0≠58/\Th (RA s 0)=false:=by
 unfold xv xp at h;refine⟨λc=>?_,?_⟩;rw[c] at h;by_cases b:RA s 1=45;rw[b] at h;simp[yY,vQ,yQ,yr] at h;simp[yY,vQ,yQ,yr,b,dL] at h;false_or_by_contra
 rename_i a;simp only[sJ,Th,fu,beq_iff_eq] at a;rcases a with (((a|a)|a)|a)|a<;>(rw[a] at h;simp[yY,vQ,yQ,yr,dL] at h)
def NY(s:ByteArray)(a:0<s.size):xv s<=s.size:=by
 unfold xv;by_cases h:xp (RA s 0) (RA s 1)=0;rw[h];simp[yr];exact(rO s 0 _ a rfl h).2
def oX(o:Option (κ))(w:World)(e:Ending)(w':World):Prop:=
 μ w w'/\match o with
  |none=>e=ε (.tuple #[ν,.bool false])
  |some l=>∃v,e=ε (.tuple #[v,.bool true])/\w'.ownsRow w.heap.size 9 1 v l.length (l.map Value.string)
def iM{w w':World}(h:Hid (o=none))(b:μ w w'):oX o w (ε (.tuple #[ν,.bool false])) w':=by
 have a:o=none:=h;subst a;exact⟨b,rfl⟩
def Lc{w w':World}{l:κ}{v:Value}(h:Hid (o=some l))(c:μ w w')(b:w'.ownsRow w.heap.size 9 1 v l.length (l.map Value.string)):oX o w (ε (.tuple #[v,.bool true])) w':=by
 have a:o=some l:=h;subst a;exact⟨c,v,rfl,b⟩
def sX(s:ByteArray)(w:World)(hs:s.size<=500):
  Calls prog 65 #[.string s] w λe f=>oX (xw s.size s) w e f:=by
 obtain⟨P,S,J,G,z⟩:=info_parts QN;go_enter func65,ntmps65;go_wp2;go_loopg [0,4] (s.size) (λn u v wr=>∃(a:ByteArray) (b:κ) (m:Nat),u=.string a/\a.size<=n/\a.size<=m/\b.length+a.size<=s.size/\Hid (xw s.size s=(xw m a).map (b++·)) ∧
   wr.ownsRow w.heap.size 9 1 v b.length (b.map Value.string)/\μ w wr)
 case atStart=>exact⟨s,[],s.size,rfl,zf _,zf _,by simp,(by simp[Hid]),yW _ _ _ _,zp _ _⟩
 obtain⟨a,b,m,rfl,U,X,N,H,j,g⟩:=hrel;by_cases x:0<a.size
 .have p:=fV a 0;have d:=qF x;have A:(a.toList == [])=false:=by
   rw[lx,beq_eq_false_iff_ne];intro h;have:a.data.toList.length=a.size:=pf;rw[h] at this;simp at this;omega
  obtain⟨m,rfl⟩:∃Q,m=Q+1:=⟨m-1,by omega⟩;cases r:qs (RA a 0)
  .have i:=Ry λW=>Tf a W (by omega) x;have E:=NY a x;by_cases k:xv a=0∨6<xv a
   .have l:Hid (xw s.size s=none):=by rw[Hid,H.out,ir x r k];rfl
    rcases k with k|k
    .rw[k] at i;rw[d] at r p;clear H d k E;by_cases c:((a[0].toNat:Int) == 58)=true
     .go_wp2_with (first|(go_at_call 105;with_reducible refine(rh _ _ (by omega) (by omega)).mono ?_;rintro e f ⟨rfl,rfl⟩)|(go_at_call 105;with_reducible refine(kr _ _ (by omega) (by omega)).mono ?_;rintro e f ⟨rfl,rfl⟩)|(go_at_call 106;refine(i.out _).mono ?_;rintro e f ⟨rfl,rfl⟩))
      go_ret2
      exact iM l g
     have q:((a[0].toNat:Int) == 58)=false:=by simpa using c
     clear c;go_wp2_with (first|(go_at_call 105;with_reducible refine(rh _ _ (by omega) (by omega)).mono ?_;rintro e f ⟨rfl,rfl⟩)|(go_at_call 105;with_reducible refine(kr _ _ (by omega) (by omega)).mono ?_;rintro e f ⟨rfl,rfl⟩)|(go_at_call 106;refine(i.out _).mono ?_;rintro e f ⟨rfl,rfl⟩))
     go_ret2
     exact iM l g
    obtain⟨c,B⟩:=L6 k;rw[d] at r p c B;have q:((a[0].toNat:Int) == 58)=false:=by simpa using c
    clear H d c;generalize xv a=t at *;have M:((t:Int) == 0)=false:=by rw[beq_eq_false_iff_ne];omega
    go_wp2_with (first|(go_at_call 105;with_reducible refine(rh _ _ (by omega) (by omega)).mono ?_;rintro e f ⟨rfl,rfl⟩)|(go_at_call 105;with_reducible refine(kr _ _ (by omega) (by omega)).mono ?_;rintro e f ⟨rfl,rfl⟩)|(go_at_call 106;refine(i.out _).mono ?_;rintro e f ⟨rfl,rfl⟩))
    go_ret2
    exact iM l g
   have I:xv a≠0:=λh=>k (zh h);have F:¬6<xv a:=λh=>k (ze h);have l:Hid (xw s.size s=(xw m (a.extract (xv a) a.size)).map ((b++[a.extract 0 (xv a)])++·)):=by rw[Hid,H.out,Da x r I F,rI]
   rw[d] at r p;clear H d k;generalize xv a=t at *;have M:((t:Int) == 0)=false:=by rw[beq_eq_false_iff_ne];omega
   have y:(a.extract t a.size).size=a.size-t:=by rw[ByteArray.size_extract];omega
   by_cases c:((a[0].toNat:Int) == 58)=true;rotate_left
   have q:((a[0].toNat:Int) == 58)=false:=by simpa using c
   clear c
   all_goals
    go_wp2_with (first|(go_at_call 105;with_reducible refine(rh _ _ (by omega) (by omega)).mono ?_;rintro e f ⟨rfl,rfl⟩)|(go_at_call 105;with_reducible refine(kr _ _ (by omega) (by omega)).mono ?_;rintro e f ⟨rfl,rfl⟩)|(go_at_call 106;refine(i.out _).mono ?_;rintro e f ⟨rfl,rfl⟩)|(at_builtin;refine kA _ _ _ _ rfl (.tmp 34) (.tmp 38) 30 rfl w.heap.size 9 P _ 1 16 underlying30 S J G z rfl (by decide) _ _ _ rfl j (zp _ _) _ _ rfl (by simp) rfl (by simp[Value.oneCell']) (by omega) (by omega) g.size ?_;intro V T C D K L R O;clear K L))
    go_roundg (a.size-1)
    case measure=>omega
    exact⟨_,b++[a.extract 0 t],m,rfl,by omega,by omega,by simp;omega,l,by simpa using C,g.trans D⟩
  have l:Hid (xw s.size s=(xw m (a.extract 1 a.size)).map (b++·)):=by rw[Hid,H.out,FK x r]
  have y:(a.extract 1 a.size).size=a.size-1:=by rw[ByteArray.size_extract];omega
  rw[d] at r p;clear H d;go_wp2_with (go_at_call 105;with_reducible refine(rh _ _ (by omega) (by omega)).mono ?_;rintro e f ⟨rfl,rfl⟩)
  go_roundg (a.size-1)
  case measure=>omega
  exact⟨_,b,m,rfl,by omega,by omega,by omega,l,j,g⟩
 have y:a.size=0:=by omega
 have l:Hid (xw s.size s=some b):=by rw[Hid,H.out,io y];simp
 have A:(a.toList == [])=true:=by
  rw[lx,beq_iff_eq];exact pA (by rw[pf];exact y)
 clear H;go_wp2_with (first|(go_at_call 105;with_reducible refine(rh _ _ (by omega) (by omega)).mono ?_;rintro e f ⟨rfl,rfl⟩)|(go_at_call 105;with_reducible refine(kr _ _ (by omega) (by omega)).mono ?_;rintro e f ⟨rfl,rfl⟩)|(go_at_call 106;refine(i.out _).mono ?_;rintro e f ⟨rfl,rfl⟩))
 go_ret2
 exact Lc l g j
end
section
open Go.Proofs.Tryz Go.RowKit
variable {w:World}{v:Value}{l:κ}
def SV(w:World)(v:Value)(l:κ):Prop:=∃c a,v=.slice c l.length a/\l.length<=a ∧
 ((c=none/\a=0)∨∃b o,c=some ⟨b,o,none⟩/\b<w.heap.size/\∀k (d:k<l.length),w.cell? ⟨b,o+k,none⟩=some (.string l[k]))
def SV.of{b:Nat}(h:w.ownsRow b 9 1 v l.length (l.map Value.string)):SV w v l:=by
 have o:=h;obtain⟨_,⟨c,i⟩|⟨g,d,m,c,_,p,n,_⟩⟩:=h;refine⟨none,0,?_,by omega,zh ⟨rfl,rfl⟩⟩;rw[c,i];refine⟨_,d,c,n,ze ⟨g,0,rfl,(jU.1 p).1,λk j=>?_⟩⟩;obtain⟨q,f,a,_,_,e⟩:=yw o (by omega);rw[c] at a;simp at a;obtain⟨rfl,_⟩:=a;rw[vn];exact e k _ (by simp[j])
def SV.qy(h:SV w v l):∃b a,v=.slice b l.length a:=by obtain⟨b,a,c,_⟩:=h;exact⟨b,a,c⟩
def SV.below{w':World}(h:SV w v l)(f:μ w w'):SV w' v l:=by
 obtain⟨j,c,m,n,e⟩:=h;refine⟨j,c,m,n,?_⟩;rcases e with e|⟨b,o,g,a,d⟩;exact zh e;exact ze ⟨b,o,g,yE a f.size,λk i=>(f.cell (p:=⟨b,o+k,none⟩) a).trans (d k i)⟩
def SV.cell{w:World}{d:Option Addr}{n cap:Nat}{l:κ}(h:SV w (.slice d n cap) l)(k:Nat)(m:k<l.length):∃b o,d=some ⟨b,o,none⟩/\b<w.heap.size/\w.cell? ⟨b,o+k,none⟩=some (.string l[k]):=by
 obtain⟨i,g,e,p,f⟩:=h;simp at e;obtain⟨rfl,_,rfl⟩:=e;rcases f with⟨_,f⟩|⟨b,o,j,a,c⟩
 omega;exact⟨b,o,j,a,c k m⟩
def SV.cells{e:Option Addr}{n cap:Nat}(h:SV w (.slice e n cap) l)(p:0<l.length):∃b o,e=some ⟨b,o,none⟩/\b<w.heap.size/\∀k (m:k<l.length),w.cell? ⟨b,o+k,none⟩=some (.string l[k]):=by
 obtain⟨i,g,d,q,f⟩:=h;simp at d;obtain⟨rfl,_,rfl⟩:=d;rcases f with⟨_,f⟩|⟨b,o,j,a,c⟩
 omega;exact⟨b,o,j,a,c⟩
section
variable {P:Program} {ops:Array Oper} {rest:List Oper} {o:Oper} {a:Act} {Q:Exit->Act->World->Prop}
def qT(w D:World)(J:o.guard=none)(x:Operand)(t e:TypeId)(lo p:Option Operand)(A:o.op=.slice t x lo p none)
  (T:P.underlying t=some (.slice e)) (y:TypeInfo) (U:P.info? e=some y) (r:P.cellsOf e=1) (v:Value) (l:κ) (R:a.eval x=v) (S:SV D v l)
  (i j:Nat) (s:lo.map a.eval=none/\i=0∨lo.map a.eval=some (ι (i:Int))) (z:p.map a.eval=none/\j=l.length∨p.map a.eval=some (ι (j:Int))) (V:i<=j) (W:j<=l.length) (n:Nat) (M:j-i=n)
  (N:∀f c,SV D (.slice f n c) ((l.drop i).take n)->wpList P ops Q rest (a.put o.dst (.slice f n c)) w):wpList P ops Q (o::rest) a w:=by
 subst M;obtain⟨f,c,rfl,X,L⟩:=S;have H:(j:Int)<=(c:Int):=by omega
 have I:(i:Int)<=(j:Int):=by omega
 have O:(Instr.sliceBounds true l.length c (lo.map a.eval) (p.map a.eval) none).run P w=.ok (i,j,c) w:=by
  rcases s with⟨E,rfl⟩|E<;>rcases z with⟨F,rfl⟩|F<;>rw[E,F]<;>simp[Instr.sliceBounds,run_sliceBound,H,I]
 refine wpList_plain J λK C=>?_;unfold Oper.wp;have d:((l.drop i).take (j-i)).length=j-i:=by simp;omega
 have u:(sizeOf e).run P w=.ok 1 w:=by rw[←r];simp[sizeOf,typeInfo,Program.cellsOf,U]
 have g:(Instr.sliceAt t (.slice f l.length c) (lo.map a.eval) (p.map a.eval) none).run P w=.ok (.slice (if c=i then f else f.map (·.add (i*1))) (j-i) (c-i)) w:=by
  simp[Instr.sliceAt,run_underlying T,Instr.slice,O,u]
 simp only[execOp,A,R,Option.map_none,g,Sem.run_bind,Result.andThen];simp;refine C _ _ (N _ _ ?_);refine⟨_,_,by rw[d],by rw[d];omega,?_⟩;rcases L with⟨rfl,rfl⟩|⟨b,G,rfl,m,B⟩
 left;exact⟨by split<;>rfl,by omega⟩;right;by_cases h:c=i;refine⟨b,G,by rw[zb h],m,λk q=>?_⟩;rw[d] at q;omega;refine⟨b,G+i,?_,m,λk q=>?_⟩;rw[za h];simp[Addr.add_lit];rw[d] at q;rw[Nat.add_assoc,B (i+k) (by omega)];simp
end
def Rl:prog.cellsOf 9=1:=by kernel_rfl
end
section
open Go.RowKit
variable {lo:Nat}{l:κ}
def gB(l:κ)(i:Nat):ByteArray:=l.getD i ByteArray.empty
def xG{i:Nat}(h:i<l.length):l[i]=gB l i:=by simp[gB,h]
def Tt(l:κ)(i:Nat):Bool:=if i%2=0 then Sb (RA (gB l i) 0) else((gB l i).toList == [44])
def uN(l:κ):Nat->κ
 |0=>[]
 |i+1=>uN l i++(if 2<=i/\i%2=0 then [gB l i] else [])
def iU(l:κ):∀i,(uN l i).length<=i
 |0=>zf _
 |i+1=>by have:=iU l i;unfold uN;split<;>simp<;>omega
def vX(l:κ):Nat->Bool
 |0=>true
 |i+1=>vX l i&&(decide (i<2)||Tt l i)
def D6{i:Nat}(h:vX l i=false):∀k,i<=k->vX l k=false:=by
 intro k c;induction k with
 |zero=>
  have:i=0:=by omega
  subst this;exact h
 |succ k b=>
  rcases dI k i with a|a;have:i=k+1:=by omega
  subst this;exact h;simp[vX,b a]
def xu(neg:Bool)(l:κ):Option zk:=
 if l.length=0 then none else if yY (RA (gB l 0) 0)=false then none else if l.length=1 then some ⟨neg,gB l 0,[]⟩
 else if l.length<4∨l.length%2=1∨((gB l 1).toList == [40])=false∨((gB l (l.length-1)).toList == [41])=false then none
 else if vX l (l.length-1) then some ⟨neg,gB l 0,uN l (l.length-1)⟩ else none
def Sm(l:κ)(a:Bool):Bool:=decide (0<l.length)&&((gB l 0).toList == [33])&&!a
def jz(l:κ)(a:Bool):Option zk:=if Sm l a then xu true l.tail else xu false l
def jD(o:Option zk)(w:World)(e:Ending)(w':World):Prop:=
 μ w w'/\match o with
  |none=>∃b p f n c,e=ε (.tuple #[.agg #[.bool b,.string p,.slice f n c],.bool false])
  |some a=>∃d,e=ε (.tuple #[.agg #[.bool a.neg,.string a.pred,d],.bool true])/\R7 w.heap.size w' d a.args
def nh{a:Bool}(b:Sm l a=false):¬0<l.length∨(0<l.length/\((gB l 0).toList == [33])=false)∨((0<l.length/\((gB l 0).toList == [33])=true)/\a=true):=by
 by_cases c:0<l.length;right;simp only[Sm,decide_eq_true c,mQ,Bool.and_eq_false_iff] at b;cases h:((gB l 0).toList == [33]);exact zh ⟨c,rfl⟩;rw[h] at b;simp at b;exact ze ⟨⟨c,rfl⟩,b⟩;exact zh c
end
section
open Go.Proofs.Tryz Go.RowKit
def Ka(w:World)(v:Value)(L:κ)(b:Bool)(c:SV w v L)(d:∀y∈L,0<y.size)(j:L.length<=500)(i:Sm L b=false)(h:L.length=0):
  Calls prog 152 #[v,.bool b] w λe k=>jD none w e k:=by
 have a:=nh i;obtain⟨g,f,rfl⟩:=c.qy;rcases a with a|⟨a,_⟩|⟨⟨a,_⟩,rfl⟩
 .go_enter func152,ntmps152;go_wp2;exact zO (v:=.tuple #[.agg #[.bool false,.string ByteArray.empty,ν],.bool false]) (by simp[results,results152,go_sem];try rfl) rfl ⟨(by go_grown),_,_,_,_,_,rfl⟩
 omega;omega
def Li(w:World)(v:Value)(L:κ)(c:Bool)(f:SV w v L)(g:∀y∈L,0<y.size)(q:L.length<=500)(p:Sm L c=false)(n:¬L.length=0)(hs:yY (RA (gB L 0) 0)=false):
  Calls prog 152 #[v,.bool c] w λe k=>jD none w e k:=by
 have a:=nh p;obtain⟨m,l,rfl⟩:=f.qy;have h:0<(gB L 0).size:=by rw[←xG (by omega:0<L.length)];exact g _ (zt _)
 obtain⟨b,o,rfl,j,i⟩:=f.cells (by omega);have d:=i 0 (by omega);rw[xG (by omega)] at d;rw[uX] at d;rcases a with a|⟨_,a⟩|⟨⟨_,a⟩,rfl⟩;omega
 all_goals
  go_enter func152,ntmps152;go_wp2_with (go_at_call 184;refine(kW _ _ h).mono ?_;rintro e k ⟨rfl,rfl⟩)
  exact zO (v:=.tuple #[.agg #[.bool false,.string ByteArray.empty,ν],.bool false]) (by simp[results,results152,go_sem];try rfl) rfl ⟨(by go_grown),_,_,_,_,_,rfl⟩
def Ku(w:World)(v:Value)(L:κ)(c:Bool)(f:SV w v L)(g:∀y∈L,0<y.size)(r:L.length<=500)(p:Sm L c=false)(n:¬L.length=0)(hs:yY (RA (gB L 0) 0)=true)(q:L.length=1):
  Calls prog 152 #[v,.bool c] w λe k=>jD (some ⟨false,gB L 0,[]⟩) w e k:=by
 have a:=nh p;obtain⟨m,l,rfl⟩:=f.qy;have h:0<(gB L 0).size:=by rw[←xG (by omega:0<L.length)];exact g _ (zt _)
 obtain⟨b,o,rfl,j,i⟩:=f.cells (by omega);have d:=i 0 (by omega);rw[xG (by omega)] at d;rw[uX] at d;rcases a with a|⟨_,a⟩|⟨⟨_,a⟩,rfl⟩;omega
 all_goals
  go_enter func152,ntmps152;go_wp2_with (go_at_call 184;refine(kW _ _ h).mono ?_;rintro e k ⟨rfl,rfl⟩)
  exact zO (v:=.tuple #[.agg #[.bool false,.string (gB L 0),ν],.bool true]) (by simp[results,results152,go_sem]) rfl ⟨(by go_grown),_,rfl,R7.nil _⟩
def MR(w:World)(v:Value)(L:κ)(c:Bool)(f:SV w v L)(g:∀y∈L,0<y.size)(r:L.length<=500)(p:Sm L c=false)(n:¬L.length=0)(hs:yY (RA (gB L 0) 0)=true)(q:¬L.length=1)(s:L.length<4):
  Calls prog 152 #[v,.bool c] w λe k=>jD none w e k:=by
 have a:=nh p;obtain⟨m,l,rfl⟩:=f.qy;have h:0<(gB L 0).size:=by rw[←xG (by omega:0<L.length)];exact g _ (zt _)
 obtain⟨b,o,rfl,j,i⟩:=f.cells (by omega);have d:=i 0 (by omega);rw[xG (by omega)] at d;rw[uX] at d;rcases a with a|⟨_,a⟩|⟨⟨_,a⟩,rfl⟩;omega
 all_goals
  go_enter func152,ntmps152;go_wp2_with (go_at_call 184;refine(kW _ _ h).mono ?_;rintro e k ⟨rfl,rfl⟩)
  exact zO (v:=.tuple #[.agg #[.bool false,.string (gB L 0),ν],.bool false]) (by simp[results,results152,go_sem];try rfl) rfl ⟨(by go_grown),_,_,_,_,_,rfl⟩
def GE(w:World)(v:Value)(L:κ)(c:Bool)(f:SV w v L)(g:∀y∈L,0<y.size)(s:L.length<=500)(p:Sm L c=false)(n:¬L.length=0)(hs:yY (RA (gB L 0) 0)=true)(r:¬L.length=1)(t:¬L.length<4)(q:L.length%2=1):
  Calls prog 152 #[v,.bool c] w λe k=>jD none w e k:=by
 have a:=nh p;obtain⟨m,l,rfl⟩:=f.qy;have h:0<(gB L 0).size:=by rw[←xG (by omega:0<L.length)];exact g _ (zt _)
 obtain⟨b,o,rfl,j,i⟩:=f.cells (by omega);have d:=i 0 (by omega);rw[xG (by omega)] at d;rw[uX] at d;rcases a with a|⟨_,a⟩|⟨⟨_,a⟩,rfl⟩;omega
 all_goals
  go_enter func152,ntmps152;go_wp2_with (go_at_call 184;refine(kW _ _ h).mono ?_;rintro e k ⟨rfl,rfl⟩)
  exact zO (v:=.tuple #[.agg #[.bool false,.string (gB L 0),ν],.bool false]) (by simp[results,results152,go_sem];try rfl) rfl ⟨(by go_grown),_,_,_,_,_,rfl⟩
def Hz(w:World)(v:Value)(L:κ)(c:Bool)(f:SV w v L)(h:∀y∈L,0<y.size)(x:L.length<=500)(q:Sm L c=false)(u:¬L.length=0)(hs:yY (RA (gB L 0) 0)=true)(t:¬L.length=1)(r:¬L.length<4)(n:¬L.length%2=1)(p:((gB L 1).toList == [40])=false):
  Calls prog 152 #[v,.bool c] w λe l=>jD none w e l:=by
 have a:=nh q;obtain⟨s,m,rfl⟩:=f.qy;have j:0<(gB L 0).size:=by rw[←xG (by omega:0<L.length)];exact h _ (zt _)
 obtain⟨b,o,rfl,k,g⟩:=f.cells (by omega);have d:=g 0 (by omega);have i:=g 1 (by omega);rw[xG (by omega)] at d i;rw[uX] at d;rcases a with a|⟨_,a⟩|⟨⟨_,a⟩,rfl⟩;omega
 all_goals
  go_enter func152,ntmps152;go_wp2_with (go_at_call 184;refine(kW _ _ j).mono ?_;rintro e l ⟨rfl,rfl⟩)
  exact zO (v:=.tuple #[.agg #[.bool false,.string (gB L 0),ν],.bool false]) (by simp[results,results152,go_sem];try rfl) rfl ⟨(by go_grown),_,_,_,_,_,rfl⟩
def KQ(w:World)(v:Value)(L:κ)(c:Bool)(g:SV w v L)(h:∀y∈L,0<y.size)(A:L.length<=500)(s:Sm L c=false)(z:¬L.length=0)(hs:yY (RA (gB L 0) 0)=true)(x:¬L.length=1)(t:¬L.length<4)(q:¬L.length%2=1)(r:((gB L 1).toList == [40])=true)(p:((gB L (L.length-1)).toList == [41])=false):
  Calls prog 152 #[v,.bool c] w λe m=>jD none w e m:=by
 have a:=nh s;obtain⟨u,n,rfl⟩:=g.qy;have j:0<(gB L 0).size:=by rw[←xG (by omega:0<L.length)];exact h _ (zt _)
 obtain⟨b,o,rfl,l,d⟩:=g.cells (by omega);have f:=d 0 (by omega);have i:=d 1 (by omega);have k:=d (L.length-1) (by omega);rw[xG (by omega)] at f i k;rw[uX] at f;rcases a with a|⟨_,a⟩|⟨⟨_,a⟩,rfl⟩;omega
 all_goals
  go_enter func152,ntmps152;go_wp2_with (go_at_call 184;refine(kW _ _ j).mono ?_;rintro e m ⟨rfl,rfl⟩)
  exact zO (v:=.tuple #[.agg #[.bool false,.string (gB L 0),ν],.bool false]) (by simp[results,results152,go_sem];try rfl) rfl ⟨(by go_grown),_,_,_,_,_,rfl⟩
def Ba{x:ByteArray}(h:(x.toList == [44])=true):Sb (RA x 0)=false:=by
 rw[beq_iff_eq,lx] at h;obtain⟨⟨l⟩⟩:=x;simp at h;subst h;rfl
def MT(w:World)(v:Value)(L:κ)(z:Bool)(T:SV w v L)(S:∀y∈L,0<y.size)(az:L.length<=500)(hb:Sm L z=false)(a7:¬L.length=0)(hs:yY (RA (gB L 0) 0)=true)(ay:¬L.length=1)(aw:¬L.length<4)(a5:¬L.length%2=1)(E:((gB L 1).toList == [40])=true)(A:((gB L (L.length-1)).toList == [41])=true):
  Calls prog 152 #[v,.bool z] w λe G=>jD (xu false L) w e G:=by
 obtain⟨i0,hi,P,ab,ae⟩:=info_parts QN;have c:=nh hb;obtain⟨ax,ai,rfl⟩:=T.qy;have ag:0<(gB L 0).size:=by rw[←xG (by omega:0<L.length)];exact S _ (zt _)
 obtain⟨b,o,rfl,N,g⟩:=T.cells (by omega);have J:=g 0 (by omega);have af:=g 1 (by omega);have aa:=g (L.length-1) (by omega);rw[xG (by omega)] at J af aa;rw[uX] at J;have ah:=Ry g;clear g;have a2:((L.length:Int) == 0)=false:=by rw[beq_eq_false_iff_ne];omega
 have au:((L.length:Int) == 1)=false:=by rw[beq_eq_false_iff_ne];omega
 have a8:((L.length:Int)%2 == 1)=false:=by rw[beq_eq_false_iff_ne];omega
 rcases c with c|⟨_,c⟩|⟨⟨_,c⟩,rfl⟩;omega
 all_goals
  go_enter func152,ntmps152;go_wp2_with (go_at_call 184;refine(kW _ _ ag).mono ?_;rintro e G ⟨rfl,rfl⟩)
  go_loopw [9] (λi wr=>∃(k:Nat) (av:Value),2<=k/\k<=L.length-1/\i=ι k/\Hid (vX L k=true)/\μ w wr/\Rz wr w.heap.size #[.bool false,.string ByteArray.empty,ν] 90/\Rz wr (w.heap.size+1) #[.bool false,.string (gB L 0),av] 90/\wr.ownsRow w.heap.size 9 1 av (uN L k).length ((uN L k).map Value.string)) (λi _=>L.length-(intOf i).toNat);exact⟨2,_,zf _,by omega,rfl,by simp[Hid,vX],(by go_grown),(Rz.new w _ _).below zP,Rz.newAt _ _ _ _ (by simp),yW _ _ _ _⟩;obtain⟨k,av,u,hk,rfl,H,f,q,n,a⟩:=hrel;obtain⟨D,l,rfl⟩:=zq a;obtain⟨a3,a1⟩:=n.rules;obtain⟨B,a6⟩:=q.rules;have an:=f.size;have ao:=n.lt;have ap:=iU L k;by_cases a4:k<L.length-1
  .have ad:=(f.cell (p:=⟨b,o+k,none⟩) N).trans (ah.out k (by omega));have ar:b<wr.heap.size:=by omega
   have aq:k<L.length:=by omega
   have s:0<L[k].size:=S _ (zt _);rw[xG (by omega:k<L.length)] at ad s;have F:uN L (k+1)=uN L k++(if 2<=k/\k%2=0 then [gB L k] else []):=rfl;have x:vX L (k+1)=(vX L k&&(decide (k<2)||Tt L k)):=rfl;rw[H.out,decide_eq_false (by omega:¬k<2),mQ,pk] at x;have t:Hid (Tt L k=false->vX L (L.length-1)=false):=λh=>D6 (i:=k+1) (by rw[x,h]) _ (by omega);unfold Tt at x t;by_cases m:k%2=0
   .rw[zb m] at x t;rw[zb ⟨u,m⟩] at F;have Z:((k:Int)%2 == 0)=true:=by rw[beq_iff_eq];omega
    have Y:((k:Int)%2 == 1)=false:=by rw[beq_eq_false_iff_ne];omega
    have Q:=Ry F;have C:=Ry x;clear F x m;cases I:Sb (RA (gB L k) 0)
    .have O:Hid (xu false L=none):=by unfold Hid xu;rw[za (by omega),hs,za (by simp),za (by omega),za (by rw[E,A];simp;omega),t.out I];simp
     clear t Q C;generalize gB L k=U at *;go_wp2_with (go_at_call 185;refine(mU _ _ s).mono ?_;rintro e G ⟨rfl,d⟩;obtain rfl:=d.symm)
     rw[O.out];exact zO (v:=.tuple #[.agg #[.bool false,.string (gB L 0),.slice D (uN L k).length l],.bool false]) (by simp[results,results152,go_sem,B];try rfl) rfl ⟨(by go_grown),_,_,_,_,_,rfl⟩
    rw[I] at C;clear t;generalize gB L k=U at *;generalize ac:uN L k=ak at *;clear ac;go_wp2_with (go_at_call 185;refine(mU _ _ s).mono ?_;rintro e G ⟨rfl,d⟩;obtain rfl:=d.symm)
    go_region_law (first|(refine Ai wr _ [.string U] 9 rfl (.tmp 103) (.tmp 108) 30 rfl w.heap.size 9 i0 _ 1 16 underlying30 hi P ab ae rfl (by decide) _ _ _ (by simp[Act.eval]) a (by exact(by go_grown)) wr.heap.size 1 (by simp[Act.eval]) (by exact Rz.drew (Rz.newAt _ _ _ _ rfl)) rfl (by simp[Value.oneCell']) (by omega) (by omega) f.size ?_;intro v' w2 K X u aj;obtain⟨V,R,rfl⟩:=zq K;have j:=Rz.keep (Rz.drew (n.below zP)) (fU a n (by decide)) u;have M:=Rz.keep (Rz.drew (q.below zP)) (fU a q (by decide)) u;obtain⟨am,al⟩:=j.rules))
    all_goals
     go_wp2;go_roundw;exact⟨k+1,_,by omega,by omega,by go_num,C,(f.trans X).setCell (by simp) _,M.set_ne (by omega) _ _,j.set 2 _,by rw[Q.out];have:=xF K ((RD.refl (w.heap.size+1) w2).setCell 2 (.slice V (ak.length+1) R)) j (by decide);simpa using this⟩;simp[intOf];omega
   rw[za m] at x t;rw[za (by omega),vR] at F;have Z:((k:Int)%2 == 0)=false:=by rw[beq_eq_false_iff_ne];omega
   have Y:((k:Int)%2 == 1)=true:=by rw[beq_iff_eq];omega
   have Q:=Ry F;have C:=Ry x;clear F x m;cases I:((gB L k).toList == [44])
   .have O:Hid (xu false L=none):=by unfold Hid xu;rw[za (by omega),hs,za (by simp),za (by omega),za (by rw[E,A];simp;omega),t.out I];simp
    clear t Q C;generalize gB L k=U at *;go_wp2_with (go_at_call 185;refine(mU _ _ s).mono ?_;rintro e G ⟨rfl,d⟩;obtain rfl:=d.symm)
    rw[O.out];exact zO (v:=.tuple #[.agg #[.bool false,.string (gB L 0),.slice D (uN L k).length l],.bool false]) (by simp[results,results152,go_sem,B];try rfl) rfl ⟨(by go_grown),_,_,_,_,_,rfl⟩
   rw[I] at C;have a0:=Ba I;clear t;generalize gB L k=U at *;go_wp2_with (go_at_call 185;refine(mU _ _ s).mono ?_;rintro e G ⟨rfl,d⟩;obtain rfl:=d.symm)
   go_roundw;exact⟨k+1,_,by omega,by omega,by go_num,C,f,q,n,by rw[Q.out];exact a⟩;simp[intOf];omega
  have W:k=L.length-1:=by omega
  have O:Hid (xu false L=some ⟨false,gB L 0,uN L k⟩):=by unfold Hid xu;rw[za (by omega),hs,za (by simp),za (by omega),za (by rw[E,A];simp;omega),←W,H.out];simp
  clear H;generalize uN L k=ak at *;go_wp2;rw[O.out];exact zO (v:=.tuple #[.agg #[.bool false,.string (gB L 0),.slice D ak.length l],.bool true]) (by simp[results,results152,go_sem,B]) rfl ⟨(by go_grown),_,rfl,xF (r:=w.heap.size) a (by repeat'(first|with_reducible(first|apply xR|assumption|apply xN|apply xA|apply xD|apply xS|apply xT)|go_size)) q (by decide)⟩
end
section
variable {l:κ}
def yL(l:κ):Nat->Nat->Int->Nat->Option (List zk)
 |0,_,_,_=>some []
 |n+1,b,d,i=>
  if i<l.length then
   if ((gB l i).toList == [40]) then yL l n b (d+1) (i+1)
   else if ((gB l i).toList == [41]) then yL l n b (d-1) (i+1)
   else if ((gB l i).toList == [44])=false∨0<d then yL l n b d (i+1)
   else match jz ((l.drop b).take (i-b)) false with
    |none=>none
    |some a=>(yL l n (i+1) d (i+1)).map (a::·)
  else match jz ((l.drop b).take (i-b)) false with
   |none=>none
   |some a=>some [a]
def s40{x:ByteArray}(h:(x.toList == [40])=true):(x.toList == [41])=false/\(x.toList == [44])=false:=by rw[beq_iff_eq] at h;rw[h];exact⟨rfl,rfl⟩
def s41{x:ByteArray}(h:(x.toList == [41])=true):(x.toList == [40])=false/\(x.toList == [44])=false:=by rw[beq_iff_eq] at h;rw[h];exact⟨rfl,rfl⟩
def xU:κ->Nat
 |[]=>0
 |x::r=>if (x.toList == [58,45]) then 0 else xU r+1
def Ey:∀l,xU l<=l.length
 |[]=>zf _
 |x::r=>by have:=Ey r;unfold xU;split<;>simp<;>omega
def OQ{j:Nat}(a:j<l.length)(h:((gB l j).toList == [58,45])=false):xU (l.drop j)=xU (l.drop (j+1))+1:=by
 rw[xh a,xU,xG a,h];rfl
def K9{j:Nat}(a:j<l.length)(h:((gB l j).toList == [58,45])=true):xU (l.drop j)=0:=by
 rw[xh a,xU,xG a,h];rfl
def jR(l:κ):Option zd:=
 match jz (l.take (xU l)) true with
 |none=>none
 |some h=>if xU l=l.length then some ⟨h,[]⟩ else
  match yL (l.drop (xU l+1)) ((l.drop (xU l+1)).length+1) 0 0 0 with
  |none=>none
  |some b=>some ⟨h,b⟩
def qz(l:κ):Nat->Nat->Nat->Option (List zd)
 |0,a,_=>if a=l.length then some [] else none
 |n+1,a,i=>
  if ((gB l i).toList == [46]) then
   match jR ((l.drop a).take (i-a)) with
   |none=>none
   |some c=>(qz l n (i+1) (i+1)).map (c::·)
  else qz l n a (i+1)
def vm(l:κ):Option (List zd):=qz l l.length 0 0
end
def mq(s:ByteArray)(i:Nat):(s.extract i s.size).size=s.size-i:=by simp[ByteArray.size_extract]
def iV(s:ByteArray)(i j k:Nat)(b:j<=s.size)(c:i+k<j):RA (s.extract i j) k=RA s (i+k):=by
 have a:k<(s.extract i j).size:=by rw[ByteArray.size_extract];omega
 rw[qF a,qF (by omega:i+k<s.size)];simp[ByteArray.getElem_extract]
def rM(s:ByteArray)(i k:Nat):RA (s.extract i s.size) k=RA s (i+k):=by
 by_cases h:i+k<s.size;exact iV s i s.size k (zf _) h;rw[pq h,pq (by rw[mq];omega)]
def Fp(p:Int->Bool)(s:ByteArray)(i:Nat):∀(n j:Nat),s.size-i-j<=n->yJ p (s.extract i s.size) j+i=yJ p s (i+j):=by
 intro n;induction n with
 |zero=>intro j c;rw[gV (by rw[mq];omega),gV (by omega)];omega
 |succ n b=>
  intro j c;by_cases h:i+j<s.size;cases a:p (RA s (i+j));rw[m5 (by rw[rM];exact a),m5 a];omega;rw[lN (by rw[mq];omega) (by rw[rM];exact a),lN h a,b (j+1) (by omega)];rfl;rw[gV (by rw[mq];omega),gV h];omega
def MS(s:ByteArray)(i:Nat)(k:Int):yr (s.extract i s.size) 0 k+i=yr s i k:=by
 unfold yr;have b:=Fp Sb s i _ 0 (zf _);have a:=Fp yQ s i _ 0 (zf _);simp only[uX] at b a;repeat' split
 all_goals omega
def G5(s:ByteArray)(i:Nat):xv (s.extract i s.size)+i=yr s i (xp (RA s i) (RA s (i+1))):=by
 unfold xv;rw[rM,rM,MS];rfl
def At(s:ByteArray)(i a b x y:Nat)(d:i+a=x)(c:min (i+b) s.size=y):(s.extract i s.size).extract a b=s.extract x y:=by
 rw[ByteArray.extract_extract,d,c]
def Pm(s:ByteArray)(i:Nat):yr s i 0=i:=by simp[yr]
def J6(s:ByteArray):∀(n i:Nat),i<=s.size->s.size-i<=n->xw n (s.extract i s.size)=(RH n s i).map (·.map Prod.snd):=by
 intro n;induction n with
 |zero=>intro i o l;rw[io (by rw[mq];omega),rc (by omega)];rfl
 |succ n j=>
  intro i o l;by_cases h:i<s.size;have e:0<(s.extract i s.size).size:=by rw[mq];omega
  have a:=rM s i 0;cases b:qs (RA s i);have g:=G5 s i;generalize d:xp (RA s i) (RA s (i+1))=k at g;by_cases c:k=0;subst c;rw[Pm] at g;rw[ir e (by rw[a];exact b) (zh (by omega)),wE h b d];rfl;have q:=rO s i k h d c;by_cases f:6<yr s i k-i;rw[ir e (by rw[a];exact b) (ze (by omega)),tX h b d f];rfl;rw[Da e (by rw[a];exact b) (by omega) (by omega),tn h b d c f];have m:(s.extract i s.size).extract 0 (xv (s.extract i s.size))=s.extract i (yr s i k):=At s i _ _ _ _ rfl (by omega);have p:(s.extract i s.size).extract (xv (s.extract i s.size)) (s.extract i s.size).size=s.extract (yr s i k) s.size:=At s i _ _ _ _ (by omega) (by rw[mq];omega);rw[m,p,j _ (by omega) (by omega),Option.map_map,Option.map_map];rfl;rw[FK e (by rw[a];exact b),ey h b,←j (i+1) (by omega) (by omega),At s i 1 _ (i+1) s.size rfl (by rw[mq];omega)];rw[io (by rw[mq];omega),rc h];rfl
def sH(s:ByteArray):xw s.size s=(RC s).map (·.map Prod.snd):=by
 have h:=J6 s s.size 0 (by omega) (by omega);rwa [show s.extract 0 s.size=s by simp] at h
section
variable {t:ByteArray}
def iY(t:ByteArray)(i:Nat):RA t i=((t.toList[i]?.map λb=>(b.toNat:Int)).getD 0):=by
 rw[lx];by_cases h:i<t.size;rw[qF h,yi (by simpa using h)];rfl;rw[pq h,kM (by simpa using h)];rfl
def Al(t:ByteArray):t.toList.length=t.size:=by rw[lx];simp
def G9(h:t.size=1)(c:UInt8):(t.toList == [c])=(RA t 0 == (c.toNat:Int)):=by
 have b:=(Al t).trans h;rw[iY];revert b
 generalize t.toList=l;intro b;match l,b with
 |[a],_=>
  by_cases d:a=c;subst d;simp;have:a.toNat≠c.toNat:=λh=>d (UInt8.toNat_inj.1 h);rw[show([a] == [c])=false by simpa using d];simp;omega
def LB{c:UInt8}{r:List UInt8}(h:RA t 0≠(c.toNat:Int)):(t.toList == c::r)=false:=by
 rw[beq_eq_false_iff_ne];intro a;apply h;rw[iY,a];rfl
structure li (x:R8):Prop where
 n:(x.1 == 1)=yY (RA x.2 0)
 t:S4 x.1=Sb (RA x.2 0)
 k4:(x.1 == 4)=(x.2.toList == [40])
 k5:(x.1 == 5)=(x.2.toList == [41])
 k6:(x.1 == 6)=(x.2.toList == [44])
 k7:(x.1 == 7)=(x.2.toList == [46])
 k8:(x.1 == 8)=(x.2.toList == [33])
 k9:(x.1 == 9)=(x.2.toList == [58,45])
def OO(h:Sb (RA t 0)=true)(c:UInt8)(a:Sb (c.toNat:Int)=false)(r:List UInt8):(t.toList == c::r)=false:=by
 apply LB;intro b;rw[b,a] at h;exact z9 h (by simp)
def eL{k:Int}(h:Sb (RA t 0)=true)(a:k=1∨k=2∨k=3)(b:(k == 1)=yY (RA t 0)):li (k,t):=by
 refine⟨b,?_,?_,?_,?_,?_,?_,?_⟩;rw[h];rcases a with h|h|h<;>subst h<;>rfl
 all_goals
  show _=(t.toList == _::_);rw[OO h _ (by decide)];rcases a with h|h|h<;>subst h<;>rfl
def Pz(i:t.size=2)(c:RA t 0=58)(d:RA t 1=45):li (9,t):=by
 have e:t.toList=[58,45]:=by
  have f:=(Al t).trans i;rw[iY] at c d;revert f c d
  generalize t.toList=l;intro c d f;match l,f,c,d with
  |[a,b],_,c,d=>
   have c:(a.toNat:Int)=58:=c;have d:(b.toNat:Int)=45:=d;have g:a=58:=UInt8.toNat_inj.1 (by simpa using(by omega:a.toNat=58));have h:b=45:=UInt8.toNat_inj.1 (by simpa using(by omega:b.toNat=45));rw[g,h]
 constructor<;>(try rw[c])<;>(try (show _=(t.toList == _);rw[e]))<;>rfl
def Lf{k c:Int}(e:t.size=1)(d:RA t 0=c)(a:dL c=k)(i:k≠0):li (k,t):=by
 have b:c=40∨c=41∨c=44∨c=46∨c=33:=by unfold dL at a;(repeat' split at a)<;>omega
 have f:(t.toList == [58,45])=false:=by
  rw[beq_eq_false_iff_ne];intro g;have:=Al t;rw[g,e] at this;simp at this
 constructor
 case n=>show _=yY (RA t 0);rw[d];rcases b with h|h|h|h|h<;>subst h<;>subst a<;>rfl
 case t=>show _=Sb (RA t 0);rw[d];rcases b with h|h|h|h|h<;>subst h<;>subst a<;>rfl
 case k9=>show _=(t.toList == _);rw[f];rcases b with h|h|h|h|h<;>subst h<;>subst a<;>rfl
 all_goals
  show _=(t.toList == _);rw[G9 e,d];rcases b with h|h|h|h|h<;>subst h<;>subst a<;>rfl
def KR(s:ByteArray)(i:Nat)(k:Int)(h:i<s.size)(b:xp (RA s i) (RA s (i+1))=k)(d:k≠0):li (k,s.extract i (yr s i k))/\0<(s.extract i (yr s i k)).size:=by
 have g:=rO s i k h b d;have j:(s.extract i (yr s i k)).size=yr s i k-i:=by rw[ByteArray.size_extract];omega
 refine⟨?_,by omega⟩;have a:RA (s.extract i (yr s i k)) 0=RA s i:=iV s i _ 0 g.2 (by omega);have f:=fun(p:i+1<yr s i k)=>iV s i _ 1 g.2 p;unfold xp at b;split at b;rename_i c;subst b;exact eL (by rw[a];simp[Sb,c]) (zh rfl) (by rw[a,c];rfl);rename_i e;split at b;rename_i c;subst b;exact eL (by rw[a];simp[Sb,c]) (ze (zh rfl)) (by rw[a];simp[e]);rename_i m;split at b;rename_i c;subst b;exact eL (by rw[a];simp[Sb,c]) (ze (ze rfl)) (by rw[a];simp[e]);split at b;rename_i o c;subst b;have q:yr s i 9=i+2:=by simp[yr]
 exact Pz (by rw[j,q];omega) (by rw[a];exact c.1) (by rw[f (by omega)];exact c.2);have l:yr s i k=i+1:=by
  have n:k≠9/\k≠1/\k≠2/\k≠3:=by subst b;unfold dL;(repeat' split)<;>simp
  simp[yr,d,n]
 exact Lf (by rw[j,l];omega) a b d
def I7(s:ByteArray):∀(n i:Nat) (l:List R8),RH n s i=some l->∀x∈l,li x/\0<x.2.size:=by
 intro n;induction n with
 |zero=>intro i l h;simp[RH] at h;subst h;simp
 |succ n g=>
  intro i l h;by_cases b:i<s.size;cases d:qs (RA s i);generalize c:xp (RA s i) (RA s (i+1))=k;by_cases a:k=0;subst a;rw[wE b d c] at h;exact z9 h (by simp);by_cases f:6<yr s i k-i;rw[tX b d c f] at h;exact z9 h (by simp);rw[tn b d c a f] at h;obtain⟨r,j,rfl⟩:=vK.1 h;intro x e;rcases zy.1 e with rfl|e;exact KR s i k b c a;exact g _ _ j x e;rw[ey b d] at h;exact g _ _ h;rw[rc b] at h;simp at h;subst h;simp
def pO{s:ByteArray}{l:List R8}(h:RC s=some l):∀x∈l,li x/\0<x.2.size:=I7 s _ _ l h
end
section
variable {r p r2:List R8}{a:zk}
inductive fA:κ->List R8->Prop
 |one {x:R8}:S4 x.1=true->fA [x.2] [x]
 |more {x c:R8} {ts:κ} {r:List R8}:S4 x.1=true->c.1=6->fA ts r->fA (x.2::ts) (x::c::r)
inductive q7:zk->List R8->Prop
 |bare {n:R8}:n.1=1->q7 ⟨false,n.2,[]⟩ [n]
 |args {n o c:R8} {ts:κ} {p:List R8}:n.1=1->o.1=4->fA ts p->c.1=5->q7 ⟨false,n.2,ts⟩ (n::o::(p++[c]))
inductive gG:zk->List R8->Prop
 |qc {a:zk} {p:List R8}:q7 a p->gG a p
 |neg {a:zk} {n:R8} {p:List R8}:n.1=8->q7 a p->gG {a with neg:=true} (n::p)
inductive g6:List zk->List R8->Prop
 |one {a:zk} {p:List R8}:gG a p->g6 [a] p
 |more {a:zk} {p q:List R8} {c:R8} {b:List zk}:gG a p->c.1=6->g6 b q->g6 (a::b) (p++c::q)
inductive fG:zd->List R8->Prop
 |fact {a:zk} {p:List R8}:q7 a p->fG ⟨a,[]⟩ p
 |rule {a:zk} {b:List zk} {p q:List R8} {i:R8}:q7 a p->i.1=9->g6 b q->fG ⟨a,b⟩ (p++i::q)
inductive fy:List zd->List R8->Prop
 |nil:fy [] []
 |cons {c:zd} {cs:List zd} {p q:List R8} {d:R8}:fG c p->d.1=7->fy cs q->fy (c::cs) (p++d::q)
def mC{k:Int}(b:k≠0)(h:RP r=k):∃x t,r=x::t/\x.1=k:=by
 rcases r with _|⟨x,t⟩;exact z9 h.symm b;exact⟨x,t,rfl,h⟩
def E2:∀(r:List R8) {ts:κ} {r2:List R8},yq r=some (ts,r2)->∃p,r=p++r2/\fA ts p
 |[],_,_,h=>by simp[yq] at h
 |[x],ts,r2,h=>by
  cases b:S4 x.1 with
  |false=>simp[yq,b] at h
  |true=>simp[yq,b] at h;obtain⟨rfl,rfl⟩:=h;exact⟨[x],rfl,.one b⟩
 |x::y::r,ts,r2,h=>by
  cases b:S4 x.1 with
  |false=>simp[yq,b] at h
  |true=>
   by_cases c:y.1=6
   .simp only[yq,b,c,if_true] at h;obtain⟨⟨g,i⟩,e,d⟩:=vK.1 h;simp at d;obtain⟨rfl,rfl⟩:=d;obtain⟨p,rfl,f⟩:=E2 r e;exact⟨x::y::p,rfl,.more b c f⟩
   .simp[yq,b,c] at h;obtain⟨rfl,rfl⟩:=h;exact⟨[x],rfl,.one b⟩
def PP{ts:κ}(h:fA ts p)(c:RP r2≠6):yq (p++r2)=some (ts,r2):=by
 induction h with
 |one b=>exact DQ b c
 |more b d _ e=>simp only[hO,yq,b,d,if_true];rw[e];rfl
def i7(h:xo r=some (a,r2)):∃p,r=p++r2/\q7 a p:=by
 unfold xo at h;split at h;rename_i g;obtain⟨n,t,rfl,e⟩:=mC (by decide) g;by_cases d:RP t=4;rw[zb (show RP (n::t).tail=4 from d)] at h;obtain⟨o,t,rfl,i⟩:=mC (by decide) d;split at h;exact z9 h (by simp);rename_i m l b;split at h;rename_i f;obtain⟨p,rfl,j⟩:=E2 _ b;obtain⟨c,t,rfl,k⟩:=mC (by decide) f;simp at h;obtain⟨rfl,rfl⟩:=h;exact⟨n::o::(p++[c]),by simp,.args e i j k⟩;exact z9 h (by simp);rw[za (show ¬RP (n::t).tail=4 from d)] at h;simp at h;obtain⟨rfl,rfl⟩:=h;exact⟨[n],rfl,.bare e⟩;exact z9 h (by simp)
def wL(h:q7 a p)(f:RP r2≠4):xo (p++r2)=some (a,r2):=by
 cases h with
 |bare b=>simp[xo,RP,b];intro h;exact z9 h f
 |args b g i d=>
  rename_i n o c j p;have e:(n::o::(p++[c]))++r2=n::o::(p++(c::r2)):=by simp
  rw[e];simp only[xo,RP,b,g,if_true,lU,List.headD_cons];rw[PP i (by simp[RP,d])];simp[d]
def q7.hd(h:q7 a p)(r:List R8):RP (p++r)=1:=by cases h<;>assumption
def q7.len(h:q7 a p):0<p.length:=by cases h<;>simp
def PZ(h:uK r=some (a,r2)):∃p,r=p++r2/\gG a p:=by
 unfold uK at h;split at h;rename_i f;obtain⟨n,t,rfl,e⟩:=mC (by decide) f;obtain⟨⟨j,i⟩,g,d⟩:=vK.1 h;simp at d;obtain⟨rfl,rfl⟩:=d;obtain⟨p,b,c⟩:=i7 g;simp only[lU] at b;subst b;exact⟨n::p,rfl,.neg e c⟩;obtain⟨p,b,c⟩:=i7 h;exact⟨p,b,.qc c⟩
def FG(h:gG a p)(c:RP r2≠4):uK (p++r2)=some (a,r2):=by
 cases h with
 |qc b=>unfold uK;rw[b.hd,wL b c];rfl
 |neg d b=>simp only[uK,hO,RP,d,if_true,lU];rw[wL b c];rfl
def gG.len{a:zk}{p:List R8}(h:gG a p):0<p.length:=by cases h with
 |qc h=>exact h.len
 |neg _ h=>simp
def Pu:∀{n:Nat} {r r2:List R8} {b:List zk},xW n r=some (b,r2)->∃p,r=p++r2/\g6 b p:=by
 intro n;induction n with
 |zero=>intro r r2 b h;simp[xW] at h
 |succ n m=>
  intro r r2 b h;rcases d:uK r with _|z;rw[rS d] at h;exact z9 h (by simp);obtain⟨a,k⟩:=z;obtain⟨p,rfl,g⟩:=PZ d;by_cases e:RP k=6;rw[pR d e] at h;obtain⟨⟨u,s⟩,l,i⟩:=vK.1 h;simp at i;obtain⟨rfl,rfl⟩:=i;obtain⟨c,t,rfl,o⟩:=mC (by decide) e;obtain⟨q,f,j⟩:=m l;simp only[lU] at f;subst f;exact⟨p++c::q,by simp,.more g o j⟩;rw[py d e] at h;simp at h;obtain⟨rfl,rfl⟩:=h;exact⟨p,rfl,.one g⟩
def LR{b:List zk}(h:g6 b p)(j:RP r2≠4)(i:RP r2≠6):∀n,p.length<=n->xW n (p++r2)=some (b,r2):=by
 induction h with
 |one d=>
  intro n f;have:=d.len;obtain⟨m,rfl⟩:∃m,n=m+1:=⟨n-1,by omega⟩;rw[py (FG d j) i]
 |more d g _ l=>
  rename_i a p q c b _;intro n f;simp only[yC,xr] at f;obtain⟨m,rfl⟩:∃m,n=m+1:=⟨n-1,by omega⟩;have e:(p++c::q)++r2=p++(c::(q++r2)):=by simp
  have k:=FG d (r2:=c::(q++r2)) (by simp[RP,g]);rw[e,pR k g,lU,l m (by omega)];rfl
def Oq{n:Nat}{c:zd}(h:vl n r=some (c,r2)):∃p d,r=p++d::r2/\d.1=7/\fG c p:=by
 unfold vl at h;split at h;exact z9 h (by simp);rename_i a s e;obtain⟨p,rfl,k⟩:=i7 e;split at h;rename_i m;obtain⟨i,t,rfl,o⟩:=mC (by decide) m;split at h;exact z9 h (by simp);rename_i b u j;obtain⟨q,rfl,l⟩:=Pu j;split at h;rename_i f;obtain⟨d,t,rfl,g⟩:=mC (by decide) f;simp at h;obtain⟨rfl,rfl⟩:=h;exact⟨p++i::q,d,by simp,g,.rule k o l⟩;exact z9 h (by simp);split at h;rename_i f;obtain⟨d,t,rfl,g⟩:=mC (by decide) f;simp at h;obtain⟨rfl,rfl⟩:=h;exact⟨p,d,rfl,g,.fact k⟩;exact z9 h (by simp)
def KK{c:zd}(h:fG c p){d:R8}(f:d.1=7)(r2:List R8)(n:Nat)(k:p.length<=n):vl n (p++d::r2)=some (c,r2):=by
 cases h with
 |fact g=>
  unfold vl;rw[wL g (by simp[RP,f])];simp[RP,f]
 |rule g j l=>
  rename_i a b p q i;simp only[yC,xr] at k;have e:(p++i::q)++d::r2=p++(i::(q++d::r2)):=by simp
  unfold vl;rw[e,wL g (by simp[RP,j])];simp only[RP,j,if_true,lU];rw[LR l (by simp[RP,f]) (by simp[RP,f]) n (by omega)];simp[f]
def fG.len{c:zd}{p:List R8}(h:fG c p):0<p.length:=by cases h with
 |fact h=>exact h.len
 |rule h=>simp;omega
def P3{n:Nat}:∀(m:Nat) {r:List R8} {cs:List zd},yO n m r=some cs->fy cs r:=by
 intro m;induction m with
 |zero=>
  intro r cs h;rcases r with _|⟨x,r⟩;simp[yO] at h;subst h;exact .nil;simp[yO] at h
 |succ m i=>
  intro r cs h;rcases r with _|⟨x,r⟩;simp[yO] at h;subst h;exact .nil;rcases b:vl n (x::r) with _|z;rw[tK (by simp) b] at h;exact z9 h (by simp);rw[ry (by simp) b] at h;obtain⟨c,f,rfl⟩:=vK.1 h;obtain⟨p,d,e,g,j⟩:=Oq b;rw[e];exact .cons j g (i f)
def GR{n:Nat}{cs:List zd}(h:fy cs r):∀m,r.length<=m->r.length<=n->yO n m r=some cs:=by
 induction h with
 |nil=>intro m _ _;cases m<;>rfl
 |cons b e _ f=>
  intro m d c;have:=b.len;simp only[yC,xr] at d c;obtain⟨k,rfl⟩:∃k,m=k+1:=⟨m-1,by omega⟩;rw[ry (by simp) (KK b e _ n (by omega)),f k (by omega) (by omega)];rfl
def GY(l:List R8)(cs:List zd):yO l.length l.length l=some cs↔fy cs l:=
 ⟨P3 _,λh=>GR h _ (zf _) (zf _)⟩
end
section
variable {p:List R8}
def ub(l:List R8):Prop:=∀x∈l,li x
def zV(l:List R8):κ:=l.map Prod.snd
def tk(l:List R8)(i:Nat):R8:=l.getD i (0,ByteArray.empty)
def In:li (0,ByteArray.empty):=by constructor<;>first|rfl|(show _=(ByteArray.empty.toList == _);rw[lx];rfl)
def ub.tk{l:List R8}(h:ub l)(i:Nat):li (tk l i):=by
 unfold Go.Proofs.YteampbddflhngaaGreat.tk;by_cases a:i<l.length;rw[ks,yi a];exact h _ (zt a);rw[ks,kM (by omega)];exact In
def dP(l:List R8)(i:Nat):gB (zV l) i=(tk l i).2:=by
 unfold gB zV tk;by_cases a:i<l.length;simp[List.getD_eq_getElem?_getD,a];simp[List.getD_eq_getElem?_getD,a]
def ky(l:List R8):(zV l).length=l.length:=by simp[zV]
def ub.take{l:List R8}(h:ub l)(n:Nat):ub (l.take n):=λx a=>h x (dJ a)
def ub.drop{l:List R8}(h:ub l)(n:Nat):ub (l.drop n):=λx a=>h x (dT a)
def qN{k c:Int}{b:Bool}(h:(k == c)=b):b=true↔k=c:=by subst h;simp
def Sn{α:Type}:List α->List α
 |[]=>[]
 |[x]=>[x]
 |x::_::r=>x::Sn r
def Fh{α:Type}(y:α):∀x:List α,Sn (x++[y])=Sn x++(if x.length%2=0 then [y] else [])
 |[]=>rfl
 |[a]=>rfl
 |a::b::r=>by
  have:=Fh y r;have c:(a::b::r).length%2=r.length%2:=by simp only[xr];omega
  rw[c];simp only[hO,Sn,this]
def C7(l:κ):∀m,m<=l.length->uN l m=Sn ((l.drop 2).take (m-2))
 |0,_=>by simp[uN,Sn]
 |m+1,h=>by
  rw[uN,C7 l m (by omega)];by_cases a:2<=m
  .have e:(l.drop 2).take (m+1-2)=(l.drop 2).take (m-2)++[gB l m]:=by
    rw[show m+1-2=(m-2)+1 by omega,List.take_add_one];congr 1;rw[List.getElem?_drop,show 2+(m-2)=m by omega,yi (by omega),xG (by omega)];rfl
   rw[e,Fh];congr 1;have b:((l.drop 2).take (m-2)).length=m-2:=by simp;omega
   rw[b];simp only[a,true_and];rw[show(m-2)%2=m%2 by omega]
  .rw[show m+1-2=0 by omega,show m-2=0 by omega];simp[Sn,a]
def EW(l:κ):∀m,vX l m=true↔∀i,2<=i->i<m->Tt l i=true
 |0=>by simp[vX]
 |m+1=>by
  have f:=EW l m;simp only[vX,uG,fu,decide_eq_true_eq,f];constructor
  .rintro⟨e,a⟩ i b c;by_cases d:i=m
   .subst d;rcases a with a|a
    .omega
    .exact a
   .exact e i b (by omega)
  .intro h;refine⟨λi b c=>h i b (by omega),?_⟩;by_cases a:m<2
   .exact zh a
   .exact ze (h m (by omega) (by omega))
def TO(q:List R8):Prop:=q.length%2=1/\∀i,i<q.length->if i%2=0 then S4 (tk q i).1=true else(tk q i).1=6
def dE(x:R8)(l:List R8)(i:Nat):tk (x::l) (i+1)=tk l i:=by simp[tk]
def dY(x:R8)(l:List R8):tk (x::l) 0=x:=by simp[tk]
def Q2{ts:κ}{q:List R8}(h:fA ts q):TO q/\ts=Sn (zV q):=by
 induction h with
 |one b=>exact⟨⟨rfl,λi a=>by simp at a;subst a;simpa [dY] using b⟩,rfl⟩
 |more b f _ e=>
  obtain⟨⟨g,d⟩,c⟩:=e;refine⟨⟨by simp only[xr];omega,λi a=>?_⟩,by rw[c];rfl⟩;match i with
  |0=>simpa [dY] using b
  |1=>simpa [dE,dY] using f
  |i+2=>
   have:=d i (by simp only[xr] at a;omega);rw[dE,dE,show(i+2)%2=i%2 by omega];exact this
def Ec:∀(q:List R8),TO q->fA (Sn (zV q)) q
 |[],h=>by have:=h.1;simp at this
 |[x],h=>by have:=h.2 0 (by simp);simp[dY] at this;exact .one this
 |x::y::r,h=>by
  have b:=h.2 0 (by simp);have a:=h.2 1 (by simp);simp[dY] at b;simp[dE,dY] at a;refine .more b a (Ec r ⟨by have:=h.1;simp only[xr] at this;omega,λi c=>?_⟩);have:=h.2 (i+2) (by simp only[xr];omega);rw[dE,dE,show(i+2)%2=i%2 by omega] at this;exact this
def JY{r:List R8}{i:Nat}(h:i<p.length):tk (p++r) i=tk p i:=by
 simp[tk,List.getD_eq_getElem?_getD,List.getElem?_append_left h]
def L2{r:List R8}{c:R8}:tk (p++c::r) p.length=c:=by simp[tk,List.getD_eq_getElem?_getD]
def Jy{neg:Bool}{n o c:R8}{q:List R8}(h:ub (n::o::(q++[c])))(a:zk):
  xu neg (zV (n::o::(q++[c])))=some a↔n.1=1/\o.1=4/\c.1=5/\TO q/\a=⟨neg,n.2,Sn (zV q)⟩:=by
 have s:=qN (h n (by simp)).n;have v:=qN (h o (by simp)).k4;have u:=qN (h c (by simp)).k5;have E:gB (zV (n::o::(q++[c]))) 0=n.2:=by rw[dP,dY]
 have B:gB (zV (n::o::(q++[c]))) 1=o.2:=by rw[dP,dE,dY]
 have C:(zV (n::o::(q++[c]))).length=q.length+3:=by rw[ky];simp
 have w:gB (zV (n::o::(q++[c]))) (q.length+2)=c.2:=by rw[dP,dE,dE,L2]
 have m:vX (zV (n::o::(q++[c]))) (q.length+2)=true↔∀i,i<q.length->if i%2=0 then S4 (tk q i).1=true else(tk q i).1=6:=by
  have f:∀i,i<q.length->(Tt (zV (n::o::(q++[c]))) (i+2)=true↔if i%2=0 then S4 (tk q i).1=true else(tk q i).1=6):=by
   intro i k;have t:li (tk q i):=ub.tk (λx z=>h x (by simp[z])) i;unfold Tt;rw[dP,dE,dE,JY k,show(i+2)%2=i%2 by omega];split;rw[t.t];exact qN t.k6
  rw[EW];constructor;intro l i k;exact(f i k).1 (l (i+2) (by omega) (by omega));intro l i F k;have:=(f (i-2) (by omega)).2 (l (i-2) (by omega));rwa [show i-2+2=i by omega] at this
 have b:uN (zV (n::o::(q++[c]))) (q.length+2)=Sn (zV q):=by
  rw[C7 _ _ (by omega)];simp[zV]
 unfold xu;rw[C,E,B,show q.length+3-1=q.length+2 by omega,w,b];rw[za (by omega)];by_cases g:n.1=1;rw[za (by rw[s.2 g];simp),za (by omega)];by_cases d:q.length+3<4∨(q.length+3)%2=1∨(o.2.toList == [40])=false∨(c.2.toList == [41])=false;rw[zb d];simp only[reduceCtorEq,false_iff];rintro⟨-,A,D,y,-⟩;rw[v.2 A,u.2 D] at d;have:=y.1;simp at d;omega;rw[za d];simp only[not_or,sJ] at d;have r:TO q↔vX (zV (n::o::(q++[c]))) (q.length+2)=true:=by
  rw[m];exact⟨λh=>h.2,λh=>⟨by omega,h⟩⟩
 by_cases j:vX (zV (n::o::(q++[c]))) (q.length+2)=true;rw[zb j];simp only[zr];exact⟨λe=>⟨g,v.1 d.2.2.1,u.1 d.2.2.2,r.2 j,e.symm⟩,λe=>e.2.2.2.2.symm⟩;rw[za j];simp only[reduceCtorEq,false_iff];exact λe=>j (r.1 e.2.2.2.1);have:yY (RA n.2 0)=false:=by rw[←pE];exact λe=>g (s.1 e)
 rw[zb this];simp only[reduceCtorEq,false_iff];exact λe=>g e.1
def wm{neg:Bool}(h:ub p)(a:zk):xu neg (zV p)=some a↔∃f,q7 f p/\a={f with neg:=neg}:=by
 match p,h with
 |[],_=>
  simp only[xu,zV,List.map_nil,g5,if_true,reduceCtorEq,false_iff];rintro⟨f,b,-⟩;cases b
 |[n],h=>
  have s:=qN (h n (by simp)).n;have t:gB (zV [n]) 0=n.2:=by rw[dP,dY]
  unfold xu;rw[ky,t];constructor;intro e;cases g:yY (RA n.2 0);simp[g] at e;simp[g] at e;exact⟨_,.bare (s.1 g),e.symm⟩;rintro⟨f,b,rfl⟩;cases b with
  |bare k=>simp[s.2 k]
 |n::o::r,h=>
  rcases ww r with rfl|⟨q,c,rfl⟩;constructor;intro e;unfold xu at e;rw[ky] at e;simp at e;rintro⟨f,b,rfl⟩;generalize d:[n,o]=p at b;cases b with
  |bare=>simp at d
  |args=>simp at d
  rw[sS] at h ⊢;rw[Jy h];constructor;rintro⟨m,j,i,l,rfl⟩;exact⟨_,.args m j (Ec q l) i,rfl⟩;rintro⟨f,b,rfl⟩;generalize d:n::o::(q++[c])=p at b;cases b with
  |bare=>simp at d
  |args m j u i=>
   simp only[lP] at d;obtain⟨rfl,rfl,d⟩:=d;have:=pZ d rfl;simp only[lP,and_true] at this;obtain⟨rfl,rfl⟩:=this;obtain⟨l,rfl⟩:=Q2 u;exact⟨m,j,i,l,rfl⟩
def q7.qc{a:zk}(h:q7 a p):{a with neg:=false}=a:=by cases h<;>rfl
def eS(h:ub p)(a:zk):jz (zV p) true=some a↔q7 a p:=by
 have c:Sm (zV p) true=false:=by simp[Sm]
 unfold jz;rw[c,za (by simp),wm h];exact⟨fun⟨d,b,e⟩=>by rw[e,b.qc];exact b,λb=>⟨a,b,b.qc.symm⟩⟩
def eB(h:ub p)(a:zk):jz (zV p) false=some a↔gG a p:=by
 rcases p with _|⟨n,r⟩;have k:Sm (zV []) false=false:=rfl;unfold jz;rw[k,za (by simp),wm h];constructor;rintro⟨j,b,-⟩;cases b;intro c;cases c with
 |qc b=>cases b
 have f:=qN (h n (by simp)).k8;have i:Sm (zV (n::r)) false=(n.2.toList == [33]):=by
  unfold Sm;rw[dP,dY,ky];simp
 unfold jz;rw[i];cases g:(n.2.toList == [33]);have d:n.1≠8:=λe=>by rw[f.2 e] at g;exact z9 g (by simp)
 rw[za (by simp),wm h];constructor;rintro⟨j,b,rfl⟩;rw[b.qc];exact .qc b;intro c;cases c with
 |qc b=>exact⟨_,b,b.qc.symm⟩
 |neg f _=>exact z9 f d
 have d:=f.1 g;rw[zb rfl,show(zV (n::r)).tail=zV r from rfl,wm (show ub r from λx l=>h x (by simp[l]))];constructor;rintro⟨j,b,rfl⟩;exact .neg d b;intro c;cases c with
 |qc b=>have:=b.hd [];simp[RP,d] at this
 |neg _ b=>exact⟨_,b,rfl⟩
end
section
variable {l r p:List R8}
def eX{f i:Nat}(b:f<=i)(a:i<l.length):l.drop f=(l.drop f).take (i-f)++l[i]::l.drop (i+1):=by
 have e:(l.drop f).drop (i-f)=l[i]::l.drop (i+1):=by
  rw[List.drop_drop,show f+(i-f)=i by omega,xh a]
 rw[←e,jx]
def pW(l:List R8)(f k:Nat):((zV l).drop f).take k=zV ((l.drop f).take k):=by simp[zV,List.map_take,List.map_drop]
def rA{i:Nat}(h:i<l.length):tk l i=l[i]:=by simp[tk,List.getD_eq_getElem?_getD,h]
def er{i:Nat}{x:R8}(h:l.drop i=x::r):tk l i=x/\i<l.length/\l.drop (i+1)=r:=by
 have a:i<l.length:=by
  false_or_by_contra;rename_i b
  rw[ua (by omega)] at h;exact z9 h (by simp)
 rw[xh a] at h;simp only[lP] at h;exact⟨by rw[rA a];exact h.1,a,h.2⟩
def K0(h:ub l):∀(n f i:Nat) (d:Int) (b:List zk),f<=i->i+n=l.length+1->yL (zV l) n f d i=some b->g6 b (l.drop f)∨(n=0/\b=[]):=by
 intro n;induction n with
 |zero=>intro f i d b _ _ e;simp[yL] at e;exact ze ⟨rfl,e⟩
 |succ n x=>
  intro f i d b u y e;left;have step:∀{j o k},j<=i+1->i<l.length->yL (zV l) n j o (i+1)=some k->g6 k (l.drop j):=by
   intro j o k w z v;rcases x j (i+1) o k w (by omega) v with m|⟨rfl,-⟩
   exact m;omega
  unfold yL at e;rw[ky] at e;by_cases c:i<l.length;rw[zb c] at e;split at e;exact step (by omega) c e;split at e;exact step (by omega) c e;split at e;exact step (by omega) c e;rename_i q;split at e;exact z9 e (by simp);rename_i a g;rw[pW,eB ((h.drop f).take _)] at g;obtain⟨k,t,rfl⟩:=vK.1 e;have m:=step (zf _) c t;rw[eX u c];refine .more g ?_ m;have s:=qN (h.tk i).k6;rw[rA c] at s;apply s.1;simp only[not_or,sJ] at q;have:=q.1;rwa [dP,rA c] at this;rw[za c] at e;split at e;exact z9 e (by simp);rename_i a g;rw[pW,eB ((h.drop f).take _)] at g;simp only[zr] at e;subst e;have:(l.drop f).take (i-f)=l.drop f:=xk (by simp;omega);rw[this] at g;exact .one g
def dep:Int->List R8->Option Int
 |d,[]=>some d
 |d,x::r=>if x.1=4 then dep (d+1) r else if x.1=5 then dep (d-1) r else if x.1≠6∨0<d then dep d r else none
def tF:∀(p q:List R8) (d:Int),dep d (p++q)=(dep d p).bind λa=>dep a q
 |[],q,d=>rfl
 |x::p,q,d=>by
  simp only[hO,dep];split
  .exact tF p q _
  .split
   .exact tF p q _
   .split
    .exact tF p q _
    .rfl
def Lk{ts:κ}(h:fA ts p){d:Int}(c:0<d):dep d p=some d:=by
 have b:∀{x:R8},S4 x.1=true->x.1≠4/\x.1≠5/\x.1≠6:=by
  intro x a;simp[S4] at a;omega
 induction h with
 |one a=>have:=b a;simp[dep,this]
 |more a f _ e=>have:=b a;simp[dep,this,f,c,e]
def AK{a:zk}(h:q7 a p):dep 0 p=some 0:=by
 cases h with
 |bare b=>simp[dep,b]
 |args b f e c=>
  simp only[dep,b,f];simp only[tF,Lk e (d:=0+1) (by omega)];simp[dep,c]
def FY{a:zk}(h:gG a p):dep 0 p=some 0:=by
 cases h with
 |qc b=>exact AK b
 |neg c b=>simp[dep,c,AK b]
def oR{l:List R8}(h:ub l)(f:Nat):∀(p r:List R8) (d g:Int) (i n:Nat),l.drop i=p++r->dep d p=some g->yL (zV l) (n+p.length) f d i=yL (zV l) n f g (i+p.length)
 |[],r,d,g,i,n,_,a=>by simp[dep] at a;subst a;rfl
 |x::p,r,d,g,i,n,w,a=>by
  obtain⟨q,y,v⟩:=er w;have j:=h.tk i;rw[q] at j;have o:=qN j.k4;have s:=qN j.k5;have u:=qN j.k6;have b:=λt=>oR h f p r t g (i+1) n v;rw[show n+(x::p).length=(n+p.length)+1 by simp only[xr];omega,show i+(x::p).length=i+1+p.length by simp only[xr];omega];rw[yL,ky,zb y,dP,q];unfold dep at a;by_cases k:x.1=4
  .rw[zb (o.2 k)];rw[zb k] at a;exact b _ a
  .rw[za (λe=>k (o.1 e))];rw[za k] at a;by_cases m:x.1=5
   .rw[zb (s.2 m)];rw[zb m] at a;exact b _ a
   .rw[za (λe=>m (s.1 e))];rw[za m] at a;by_cases c:x.1≠6∨0<d
    .rw[zb c] at a;rw[zb (by
      rcases c with c|c
      .left;rw[←pE];exact λe=>c (u.1 e)
      .exact ze c)]
     exact b _ a
    .rw[za c] at a;exact z9 a (by simp)
def S7{f:Nat}(a:l.drop f=p++r):(l.drop f).take (f+p.length-f)=p:=by
 rw[a,show f+p.length-f=p.length by omega];simp
def AC{f:Nat}(a:l.drop f=p++r):l.drop (f+p.length)=r:=by
 rw[←List.drop_drop,a];simp
def Qa(h:ub l){b:List zk}(o:g6 b p):∀f,l.drop f=p->yL (zV l) (p.length+1) f 0 f=some b:=by
 induction o with
 |one j=>
  rename_i a p;intro f g;have d:l.drop f=p++[]:=by simpa using g
  rw[show p.length+1=1+p.length by omega,oR h f p [] 0 0 f 1 d (FY j),yL,ky];have m:=AC d;rw[List.drop_eq_nil_iff] at m;rw[za (by omega),pW,S7 d,(eB (by rw[←g];exact h.drop f) a).2 j]
 |more j B _ A=>
  rename_i a p q c b _;intro f g;have t:ub p:=λx y=>h x (dT (i:=f) (by rw[g];simp[y]));have m:=AC g;obtain⟨n,w,s⟩:=er m;have k:=h.tk (f+p.length);rw[n] at k;have u:=qN k.k4;have z:=qN k.k5;have v:=qN k.k6;rw[show(p++c::q).length+1=(q.length+1+1)+p.length by simp;omega,oR h f p (c::q) 0 0 f _ g (FY j),yL,ky,zb w,dP,n,
   za (λe=>by have:=u.1 e;omega),za (λe=>by have:=z.1 e;omega),za (by rw[v.2 B];simp),pW,S7 g,(eB t a).2 j]
  simp only;rw[A (f+p.length+1) s];rfl
def EL(h:ub l)(b:List zk):yL (zV l) ((zV l).length+1) 0 0 0=some b↔g6 b l:=by
 rw[ky];constructor;intro e;rcases K0 h _ 0 0 0 b (zf _) (by omega) e with a|⟨c,-⟩
 simpa using a;omega;intro a;exact Qa h a 0 (by simp)
end
section
variable {p l:List R8}
def No(k:Int)(l:List R8):Prop:=∀x∈l,x.1≠k
def No.app{k:Int}{q:List R8}(h:No k p)(g:No k q):No k (p++q):=λx a=>(zW.1 a).elim (h x) (g x)
def No.cons{k:Int}{x:R8}{q:List R8}(h:x.1≠k)(g:No k q):No k (x::q):=λy a=>by
 rcases zy.1 a with rfl|a
 .exact h
 .exact g y a
def No.nil(k:Int):No k []:=λx a=>z9 a (by simp)
def Pr{ts:κ}(h:fA ts p){k:Int}(d:6<k):No k p:=by
 have b:∀{x:R8},S4 x.1=true->x.1≠k:=by intro x a;simp[S4] at a;omega
 induction h with
 |one a=>exact .cons (b a) (.nil k)
 |more a e _ c=>exact .cons (b a) (.cons (by omega) c)
def pI{a:zk}(h:q7 a p){k:Int}(c:6<k):No k p:=by
 cases h with
 |bare b=>exact .cons (by omega) (.nil k)
 |args b e d f=>exact .cons (by omega) (.cons (by omega) (.app (Pr d c) (.cons (by omega) (.nil k))))
def DG{a:zk}(h:gG a p){k:Int}(d:k=7∨k=9):No k p:=by
 cases h with
 |qc b=>exact pI b (by omega)
 |neg c b=>exact .cons (by omega) (pI b (by omega))
def M0{b:List zk}(h:g6 b p){k:Int}(c:k=7∨k=9):No k p:=by
 induction h with
 |one a=>exact DG a c
 |more a e _ d=>exact .app (DG a c) (.cons (by omega) d)
def Mo{c:zd}(h:fG c p):No 7 p:=by
 cases h with
 |fact a=>exact pI a (by omega)
 |rule a d b=>exact .app (pI a (by omega)) (.cons (by omega) (M0 b (zh rfl)))
def oi:∀(p r:List R8),ub p->No 9 p->xU (zV (p++r))=p.length+xU (zV r)
 |[],r,_,_=>by simp
 |x::p,r,h,b=>by
  have d:=qN (h x (by simp)).k9;have c:(x.2.toList == [58,45])=false:=by rw[←pE];exact λe=>b x (by simp) (d.1 e)
  show xU (x.2::zV (p++r))=_;rw[xU,c,oi p r (λy a=>h y (by simp[a])) (λy a=>b y (by simp[a]))];simp only[xr];rw[za (by simp)];omega
def Gh:∀(l:List R8),ub l->xU (zV l)<l.length->(tk l (xU (zV l))).1=9
 |[],_,h=>by simp at h
 |x::l,a,h=>by
  have d:=qN (a x (by simp)).k9;change xU (x.2::zV l)<_ at h;show(tk (x::l) (xU (x.2::zV l))).1=9;rw[xU] at h ⊢;cases b:(x.2.toList == [58,45]) with
  |true=>rw[zb rfl,dY];exact d.1 b
  |false=>
   rw[b,za (by simp)] at h;rw[za (by simp),dE];exact Gh l (λy c=>a y (by simp[c])) (by simp only[xr] at h;omega)
def DT(l:List R8)(k:Nat):(zV l).take k=zV (l.take k):=by simp[zV,List.map_take]
def AX(l:List R8)(k:Nat):(zV l).drop k=zV (l.drop k):=by simp[zV,List.map_drop]
def Fe(h:ub l)(c:zd):jR (zV l)=some c↔fG c l:=by
 constructor;intro e;have n:=Ey (zV l);rw[ky] at n;unfold jR at e;rw[DT,AX,ky] at e;split at e;exact z9 e (by simp);rename_i A j;rw[eS (h.take _)] at j;split at e;rename_i s;simp only[zr] at e;subst e;rw[s,xk (zf _)] at j;exact .fact j;rename_i s;have d:xU (zV l)<l.length:=by omega
 split at e;exact z9 e (by simp);rename_i b r;rw[EL (h.drop _)] at r;simp only[zr] at e;subst e;have g:=Gh l h d;rw[rA d] at g;have k:=eX (l:=l) (zv (xU (zV l))) d;rw[gW,Nat.sub_zero] at k;have u:=fG.rule j g r;rwa [←k] at u;intro z;unfold jR;rw[DT,AX,ky];cases z with
 |fact f=>
  have o:xU (zV l)=l.length:=by
   have:=oi l [] h (pI f (by omega));simpa [zV,xU] using this
  rw[o,xk (zf _),(eS h _).2 f];simp
 |rule f g v=>
  rename_i a b p q i;have t:ub p:=λx m=>h x (by simp[m]);have y:ub q:=λx m=>h x (by simp[m]);have o:xU (zV (p++i::q))=p.length:=by
   rw[oi p (i::q) t (pI f (by omega))];show p.length+xU (i.2::zV q)=_;rw[xU,(qN (h i (by simp)).k9).2 g];rfl
  rw[o];have w:(p++i::q).take p.length=p:=by simp
  have k:(p++i::q).drop (p.length+1)=q:=by rw[←List.drop_drop];simp
  rw[w,k,(eS t _).2 f,(EL y _).2 v];simp only;rw[za (by simp)]
def Q5(h:ub l):∀(n f i:Nat) (cs:List zd),f<=i->i+n=l.length->qz (zV l) n f i=some cs->fy cs (l.drop f):=by
 intro n;induction n with
 |zero=>
  intro f i cs d k e;unfold qz at e;rw[ky] at e;split at e;rename_i r;simp only[zr] at e;subst e;rw[ua (by omega)];exact .nil;exact z9 e (by simp)
 |succ n g=>
  intro f i cs d k e;have b:i<l.length:=by omega
  unfold qz at e;rw[dP,rA b] at e;split at e;rename_i o;have m:=(qN (h l[i] (zt b)).k7).1 o;split at e;exact z9 e (by simp);rename_i c j;rw[pW,Fe ((h.drop f).take _)] at j;obtain⟨q,a,rfl⟩:=vK.1 e;rw[eX d b];exact .cons j m (g _ _ _ (zf _) (by omega) a);exact g _ _ _ (by omega) (by omega) e
def Dp{l:List R8}(h:ub l)(f:Nat):∀(p r:List R8) (i n:Nat),l.drop i=p++r->No 7 p->qz (zV l) (n+p.length) f i=qz (zV l) n f (i+p.length)
 |[],r,i,n,_,_=>rfl
 |x::p,r,i,n,k,a=>by
  obtain⟨c,m,g⟩:=er k;have b:=h.tk i;rw[c] at b;have j:=qN b.k7;rw[show n+(x::p).length=(n+p.length)+1 by simp only[xr];omega,show i+(x::p).length=i+1+p.length by simp only[xr];omega];rw[qz,dP,c,za (λe=>a x (by simp) (j.1 e))];exact Dp h f p r (i+1) n g (λy d=>a y (by simp[d]))
def It(h:ub l){cs:List zd}(n:fy cs p):∀f,f<=l.length->l.drop f=p->qz (zV l) p.length f f=some cs:=by
 induction n with
 |nil=>
  intro f m a;rw[List.drop_eq_nil_iff] at a;rw[g5,qz,ky,zb (by omega)]
 |cons g s _ j=>
  rename_i c cs p q d _;intro f m a;have t:ub p:=λx o=>h x (dT (i:=f) (by rw[a];simp[o]));have r:=AC a;obtain⟨e,u,k⟩:=er r;have b:=h.tk (f+p.length);rw[e] at b;rw[show(p++d::q).length=(q.length+1)+p.length by simp;omega,Dp h f p (d::q) f _ a (Mo g),qz,dP,e,zb ((qN b.k7).2 s),pW,S7 a,(Fe t c).2 g];simp only;rw[j (f+p.length+1) (by omega) k];rfl
def oM(h:ub l)(cs:List zd):vm (zV l)=some cs↔fy cs l:=by
 unfold vm;rw[ky];constructor;intro e;have:=Q5 h _ 0 0 cs (zf _) (by omega) e;simpa using this;intro a;exact It h a 0 (by omega) (by simp)
def P5(h:ub l):vm (zV l)=yO l.length l.length l:=by
 apply Option.ext;intro a;show vm (zV l)=some a↔yO l.length l.length l=some a;rw[oM h,GY]
def AD(s:ByteArray):(xw s.size s).bind vm=(RC s).bind λl=>yO l.length l.length l:=by
 rw[sH];rcases a:RC s with _|l;rfl;exact P5 λx b=>(pO a x b).1
end
end Go.Proofs.YteampbddflhngaaGreat
