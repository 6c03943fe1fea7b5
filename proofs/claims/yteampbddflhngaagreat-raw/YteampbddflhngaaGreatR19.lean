import Derived.Test.YteampbddflhngaaGreatR16
namespace Go.Proofs.YteampbddflhngaaGreat
open List renaming length→List.j,getD→List.g,take→List.G
open _root_.Array renaming size→Array.q,getD→Array.g
open Go.RowKit.Below renaming size→Go.RowKit.Below.q,setCell→Go.RowKit.Below.x,mono→Go.RowKit.Below.y,trans→Go.RowKit.Below.A
open Go.TypeInfo renaming size→Go.TypeInfo.q
open Go.RowKit.Hid renaming out→Go.RowKit.Hid.l
open Go.Shut renaming out→Go.Shut.l
open Go.World renaming heap→Go.World.o,setCell→Go.World.x,cell?→Go.World.p
open Go.Value renaming slice→Go.Value.k
open Go.TypeDesc renaming slice→Go.TypeDesc.k
open Option renaming getD→Option.g,some→Z,none→Y
open Go.Calls renaming mono→Go.Calls.y
open Eq renaming trans→Eq.A
open Go.RowKit renaming Hid→X
open Go renaming Value→O
set_option linter.all false
set_option maxRecDepth 100000
set_option maxHeartbeats 8000000
open Go.Proofs.Tryz Go.RowKit
section
variable {z:Nat->Prop}
section
variable {lo:Nat} {w w2:World} {v:O} {rows:List (κ)}
def x6.push{rvs:Γ}(k:rvs.j=rows.j)(g:w.ownsRow lo 30 1 v rows.j rvs)(l:∀i (h:i<rows.j) (g:i<rvs.j),Us z w rvs[i] rows[i]){c v':O}{row:κ}(m:Us z w c row)(d:zd v.ownBlock.toList w w2)(j:w2.ownsRow lo 30 1 v' (rows.j+1) (rvs++[c])):x6 z lo w2 v' (rows++[row]):=by
 have f:T2 w 30 v.ownBlock.toList:=T2.own g;refine⟨rvs++[c],by simp[k],by simpa using j,λi a b=>?_⟩;by_cases e:i<rows.j;rw[uH η,uH e];exact(l i e η).saveT d f θ;rw[lB η,lB η];simp only[List.getElem_singleton];exact m.saveT d f θ
def x6.two(h:x6 z lo w v rows){k:Nat}(r:k+1<rows.j):∃g d n f e l,v=.k (Z (δ g)) rows.j d/\lo<=g/\g<w.o.q/\(∀o,w.frozen? (ω g o)=false)/\w.p (ω g (k+1))=Z (.k n (rows.g (k+1) []).j f)/\w.p (ω g k)=Z (.k e (rows.g k []).j l)/\Tn 0 w (.k n (rows.g (k+1) []).j f) (rows.g (k+1) [])/\Tn 0 w (.k e (rows.g k []).j l) (rows.g k []) ∧
  ∀W,μ w W->x6 z lo ((W.x (ω g (k+1)) (.k e (rows.g k []).j l)).x (ω g k) (.k n (rows.g (k+1) []).j f)) v ((rows.set (k+1) (rows.g k [])).set k (rows.g (k+1) [])):=by
 obtain⟨c,C,p,u⟩:=h;obtain⟨g,d,rfl,G,t,B⟩:=yr p η;rw[Tl [] r,Tl [] (show k<rows.j by omega)];obtain⟨A,_⟩:=u (k+1) r η;obtain⟨D,_⟩:=u k η η;obtain⟨n,f,s⟩:=A.qy;obtain⟨e,l,x⟩:=D.qy;refine⟨g,d,n,f,e,l,rfl,G,t,vg p,by rw[←s];exact B _ _ (by simp[C,r]),by rw[←x];exact B _ _ (yn _),by rw[←s];exact A,by rw[←x];exact D,λW y=>?_⟩;rw[←s,←x];have F:=uB (zy p y) (k+1) η c[k];have H:=uB F k υ c[k+1];have I:zd [g] W ((W.x (ω g (k+1)) c[k]).x (ω g k) c[k+1]):=(zd.set _ _ _ _).A (zd.set _ _ _ _);have J:T2 W 30 [g]:=by have:=T2.own (zy p y);exact this
 refine⟨(c.set (k+1) c[k]).set k c[k+1],by simp[C],by simpa using H,λi a b=>?_⟩;simp only[fo] at a b;have q:∀j (E:j<rows.j) (m:j<c.j),Us z ((W.x (ω g (k+1)) c[k]).x (ω g k) c[k+1]) c[j] rows[j]:=λj E m=>((u j E m).u y).saveT I J θ;simp only[lV];split;exact q (k+1) r η;split;exact q k η η;exact q i a b
end
def DM:∀(k:Nat) (l:List (κ)),(jK l k).j=l.j
 |0,l=>rfl
 |k+1,l=>by
  unfold jK;split
  .rw[DM k];simp
  .rfl
def GA{P:κ->Prop}:∀(k:Nat) (l:List (κ)),k<l.j->(∀y∈l,P y)->∀y∈jK l k,P y
 |0,l,_,h=>h
 |k+1,l,b,h=>by
  unfold jK;split
  .refine GA k _ υ λy a=>?_;rw[Tl [] b,Tl [] (show k<l.j by omega)] at a;rcases lK a with q|rfl
   .rcases lK q with q|rfl
    .exact h y q
    .exact h _ (zq _)
   .exact h _ (zq _)
  .exact h
def dT(L:List z9)(n:ByteArray)(i:Nat):List (κ):=mm (L.G i) n
def By{L:Θ}{n:ByteArray}{i:Nat}(h:i<L.j):dT L n (i+1)=if L[i].1=n then jK (dT L n i++[L[i].2.1]) (dT L n i).j else dT L n i:=by
 unfold dT mm;rw[yM h,qZ];rfl
def GK{L:Θ}{n:ByteArray}:∀i,i<=L.j->(dT L n i).j<=i
 |0,_=>by simp[dT,mm]
 |i+1,h=>by
  rw[By h];have:=GK (L:=L) (n:=n) i η;split
  .rw[DM];simp;omega
  .omega
def Fx{L:Θ}{n:ByteArray}{b:Nat}(a:∀f∈L,f.1=n->f.2.1.j=b):∀i,i<=L.j->∀y∈dT L n i,y.j=b
 |0,_=>by simp[dT,mm]
 |i+1,h=>by
  rw[By h];have:=Fx a i η;split
  .rename_i e;refine GA _ _ ζ λy c=>?_;rcases ya.1 c with q|q
   .exact this y q
   .rw[xQ.1 q];exact a _ (zq _) e
  .exact this
def SQ:(prog.info? 30).map (λi=>(i.zero,i.q,i.bytes))=Z (Z (ν),1,24):=χ
def P7(w:World)(mb rd:Nat)(fv:O)(L:Θ)(a:ByteArray)(h:Nat)(hm:Th w mb #[fv,ι rd] 54)(hf:yX z 0 w fv L)(hl:L.j<=1048576)(hk:∀f∈L,f.1=a->f.2.1.j=h)(aR:h<=1000):
  Calls prog 40 #[(π mb),.string a] w λe t=>∃v,e=.returned v/\X (x6 z w.o.q t v (mm L a))/\X (μ w t):=by
 obtain⟨i0,a4,ay,aA,ax⟩:=info_parts SQ;obtain⟨aq,f1,f2,f3⟩:=hf;obtain⟨ao,aK,rfl⟩:=zr f2;have HF:X (∀i (p:i<L.j),∃g rv,ao=Z ⟨g,0,Y⟩/\g<w.o.q/\w.p ⟨g,i*3,Y⟩=Z (.string L[i].1)/\w.p ⟨g,i*3+1,Y⟩=Z rv/\Us z w rv L[i].2.1):=λi p=>by
  obtain⟨g,aH,R,_,hg,hc⟩:=yr f2 η;cases R;refine⟨g,aq[i],rfl,hg,hc (i*3) _ ?_,hc (i*3+1) _ ?_,f3 i p η⟩;rw[show i*3=i*3+0 from rfl,mB _ _ _ _ p η η];rfl;rw[mB _ _ _ _ p η η];rfl
 have HK:=Tg hk;have HA:=Tg λi p=>Fx hk i p;have aD:=Tg λi p=>GK (L:=L) (n:=a) i p;clear f1 f2 f3 hk;go_enter func40,ntmps40;go_wp2;go_loopw [5,6,7,8,9,10] (λv5 v6 _ _ _ _ wr=>∃(i:Nat) (lv:O),i<=L.j/\v6=ι i/\v5=lv/\X (x6 z w.o.q wr lv (dT L a i))/\X (μ w wr)) (λ_ v6 _ _ _ _ _=>L.j-(intOf v6).toNat);exact⟨0,_,zs _,rfl,rfl,x6.nil _ _,zn _ _⟩;obtain⟨i,lv,p,rfl,a9,HO,x⟩:=hrel;obtain rfl:=a9.symm;have ac:=hm.u x.l;obtain⟨hc,_,aW⟩:=ac.e;by_cases J:i<L.j
 .obtain⟨g,rv,a7,hg,c0,N,an⟩:=HF.l i J;subst a7;have HS:=Tg (By (n:=a) J);have x0:=zi x.l hg c0;have x1:=zi x.l hg N;have aV:=ym hg x.l.q;have F:=Tg (an.u x.l);have ad:=Tg (HA.l i p);have aI:=aD.l i p;have G:=Tg (HK.l _ (zq J));clear c0 N an;obtain⟨al,D,a8⟩:=F.l.1.qy;subst a8;generalize dT L a i=c at *;by_cases H:L[i].1=a
  .have am:=jt H;have av:=Tg (G.l H);have aw:=Tg (HS.l.A (zb H));have a1:=x.l.q;obtain⟨u,j,R⟩:∃u j,lv=.k u c.j j:=by obtain⟨P,_,q,_⟩:=HO.l;exact zr q
   subst R;clear G HS H;generalize L[i].1=nm at *;generalize L[i].2.1=row at *;obtain⟨P,af,ho,ah⟩:=HO.l;have ar:=Tg ho;have V:X (∀w2 v',zd (O.ownBlock (.k u c.j j)).toList wr w2->w2.ownsRow w.o.q 30 1 v' (c.j+1) (P++[.k al row.j D])->x6 z w.o.q w2 v' (c++[row])/\μ w w2):=λw2 v' hS h2=>⟨x6.push af ho ah F.l hS h2,x.l.A (hS.u (λb Q=>yU ho (xa Q)) a1)⟩;clear af ah HO ho;go_wp2_with (at_builtin;refine kc wr _ [.k al row.j D] _ rfl (.tmp 30) (.tmp 39) 31 rfl w.o.q 30 i0 _ 1 24 underlying31 a4 ay aA ax rfl θ (.k u c.j j) c.j P rfl ar.l (zn _ _) _ _ rfl ζ rfl a_ η η η ?_;intro v2 w2 E aa S;obtain⟨aF,aj,rfl⟩:=zr E)
   obtain⟨T,ab⟩:=V.l _ _ aa E;have ai:=Tg T;have ae:=Tg ab;have ap:X (∀y∈c++[row],y.j=h):=λy hy=>by
    rcases ya.1 hy with q|q;exact ad.l y q;rw[xQ.1 q];exact av.l
   clear T ab V ar aa E S ad av F x0 x1 am hc ac;go_loopw [8,9,10] (λv8 _ _ wq=>∃(k:Nat) (rows:List (κ)),k<=c.j/\v8=ι k/\X (rows.j=c.j+1)/\X (x6 z w.o.q wq (.k aF (c.j+1) aj) rows)/\X (∀y∈rows,y.j=h)/\X (jK (c++[row]) c.j=jK rows k)/\X (μ w wq)) (λv8 _ _ _=>(intOf v8).toNat);exact⟨c.j,c++[row],zg _,rfl,by simp[X],ai,ap,rfl,ae⟩;clear ai ae ap;obtain⟨k,rows,aO,rfl,r,s,HW,K,m⟩:=hrel;rcases k with _|k
   .have I:=Tg (aw.l.A K.l);go_wp2;go_roundw;exact⟨i+1,_,η,ξ,rfl,by rw[I.l];exact s.l,m⟩;simp[intOf];omega
   obtain⟨M,cp,o1,N,o2,c2,R,ag,B,aE,e1,e2,s1,s2,C⟩:=s.l.two (k:=k) (by rw[r.l];omega);have A:=R;rw[r.l] at A;simp only[O.slice.injEq] at A;have a2:=A.1;clear R A;subst a2;have la:(rows.g (k+1) []).j=h:=HW.l _ (by rw[Tl [] (by rw[r.l];omega)];exact zq _);have lb:(rows.g k []).j=h:=HW.l _ (by rw[Tl [] (by rw[r.l];omega)];exact zq _);have az:X (∀y∈(rows.set (k+1) (rows.g k [])).set k (rows.g (k+1) []),y.j=h):=λy hy=>by
    rcases lK hy with q|rfl;rcases lK q with q|rfl;exact HW.l y q;exact lb;exact la
   have l:X (jK (c++[row]) c.j=if yS (rows.g (k+1) []) (rows.g k []) then jK ((rows.set (k+1) (rows.g k [])).set k (rows.g (k+1) [])) k else rows):=K.l;have a6:X (((rows.set (k+1) (rows.g k [])).set k (rows.g (k+1) [])).j=c.j+1):=by rw[X,fo,fo];exact r.l
   rw[la] at e1 C;rw[lb] at e2 C;have ak:=Tg C;have au:X (∀W,μ wr W->Calls prog 81 #[.k o1 h N,.k o2 h c2] W λe t=>e=ε (.bool (yS (rows.g (k+1) []) (rows.g k [])))/\X (μ wr t)/\t.p ⟨M,k+1,Y⟩=Z (.k o1 h N)/\t.p ⟨M,k,Y⟩=Z (.k o2 h c2)):=λW Q=>by
    have q:=NL W _ _ _ _ (s1.u Q) (s2.u Q) (lb.A la.symm) η;rw[la,lb] at q;refine q.y ?_;rintro e t ⟨h1,h2⟩;exact⟨h1,Tk Q h2,zi (Tk Q h2) B e1,zi (Tk Q h2) B e2⟩
   clear s1 s2 C la lb HW K;generalize rows.g (k+1) []=ra at *;generalize rows.g k []=rb at *;have aU:(k:Int)+1<(c.j:Int)+1:=η;have aQ:(k:Int)<(c.j:Int)+1:=η;have aP:((k:Int)+1).toNat=k+1:=η;have aS:(0:Int)<=(k:Int)+1:=η;have aM:IntKind.i64.wrap (((k:Int)+1)-1)=(k:Int):=(IntWalk.i64_in _ η).A η;have aN:IntKind.i64.wrap (((k+1:Nat):Int)-1)=(k:Int):=(IntWalk.i64_in _ η).A η;have aL:IntKind.i64.wrap (k:Int)=(k:Int):=IntWalk.i64_in _ η;have aJ:IntKind.i64.wrap ((k:Int)+1)=(k:Int)+1:=IntWalk.i64_in _ η;go_wp2;go_region_held3 (λt=>t.p ⟨M,k+1,Y⟩=Z (.k o1 h N)/\t.p ⟨M,k,Y⟩=Z (.k o2 h c2)) (first|go_keep|(go_simp;done)) (first|(go_at_call 81;refine(au.l _ φ).y ?_;rintro e w5 ⟨rfl,d,z0,z1⟩))
   have aG:∀o,w5.frozen? ⟨M,o,Y⟩=false:=by obtain⟨_,_,q,_⟩:=s.l.u d.l;exact vg q
   have aT:=ym B d.l.q;have a0:=Tg (ak.l w5 d.l);have aC:X (μ w ((w5.x ⟨M,k+1,Y⟩ (.k o2 h c2)).x ⟨M,k,Y⟩ (.k o1 h N))):=((m.l.A (d.l.y m.l.q)).x ag _).x ag _;have aB:=Tg (s.l.u d.l);have a3:=Tg (m.l.A (d.l.y m.l.q));clear ak au e1 e2 aE B s m d;cases ha:yS ra rb
   .rw[ha] at l;have I:=Tg (aw.l.A (l.l.A (za ζ)));clear ha l;go_wp2;go_roundw;exact⟨i+1,_,η,ξ,rfl,by rw[I.l];exact aB.l,a3⟩;simp[intOf];omega
   rw[ha] at l;have a5:=Tg (l.l.A (zb rfl));clear ha l;go_wp2;go_roundw;exact⟨k,_,η,ξ,a6,a0,az,a5,aC⟩;simp[intOf]
  have am:=vV H;have I:=Tg (HS.l.A (za H));clear G HS H;generalize L[i].1=nm at *;go_wp2;go_roundw;exact⟨i+1,_,η,ξ,rfl,by rw[I.l];exact HO.l,x⟩;simp[intOf];omega
 obtain rfl:i=L.j:=η;have I:X (dT L a L.j=mm L a):=by unfold X dT;rw[uW]
 go_wp2;go_ret;exact⟨_,rfl,by rw[←I.l];exact HO.l,x⟩
end
end Go.Proofs.YteampbddflhngaaGreat
