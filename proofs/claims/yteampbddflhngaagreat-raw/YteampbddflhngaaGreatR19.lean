import Derived.Test.YteampbddflhngaaGreatR16
namespace Go.Proofs.YteampbddflhngaaGreat
open List renaming length→List.j,getD→List.g,take→List.G
open _root_.Array renaming size→Array.q,getD→Array.g
open Go.RowKit.Below renaming size→Go.RowKit.Below.q,setCell→Go.RowKit.Below.x,mono→Go.RowKit.Below.y,trans→Go.RowKit.Below.A
open Go.TypeInfo renaming size→Go.TypeInfo.q
open Go.RowKit.Hid renaming out→Go.RowKit.Hid.l
open Go.Shut renaming out→Go.Shut.l
open Go.World renaming heap→Go.World.o,setCell→Go.World.x,cell?→Go.World.p
open Go.Value renaming slice→Go.Value.k
open Go.TypeDesc renaming slice→Go.TypeDesc.k
open Option renaming getD→Option.g,some→Z,none→Y
open Go.Calls renaming mono→Go.Calls.y
open Eq renaming trans→Eq.A
open Go.RowKit renaming Hid→X
open Go renaming Value→O
set_option linter.all false
set_option maxRecDepth 100000
set_option maxHeartbeats 8000000
open Go.Proofs.Tryz Go.RowKit
section
variable {z:Nat->Prop}
section
variable {lo:Nat} {w w2:World} {v:O} {rows:List (κ)}
def xE.push{rvs:Γ}(j:rvs.j=rows.j)(e:w.ownsRow lo 30 1 v rows.j rvs)(l:∀i (h:i<rows.j) (e:i<rvs.j),Ut z w rvs[i] rows[i]){c v':O}{row:κ}(m:Ut z w c row)(f:zd v.ownBlock.toList w w2)(k:w2.ownsRow lo 30 1 v' (rows.j+1) (rvs++[c])):xE z lo w2 v' (rows++[row]):=by
 have g:T3 w 30 v.ownBlock.toList:=T3.own e;refine⟨rvs++[c],by simp[j],by simpa using k,λi a b=>?_⟩;by_cases d:i<rows.j;rw[uG η,uG d];exact(l i d η).saveT f g θ;rw[lW η,lW η];simp only[List.getElem_singleton];exact m.saveT f g θ
def xE.two(h:xE z lo w v rows){k:Nat}(p:k+1<rows.j):∃g d m f l e,v=.k (Z (δ g)) rows.j d/\lo<=g/\g<w.o.q/\(∀o,w.frozen? (ω g o)=false)/\w.p (ω g (k+1))=Z (.k m (rows.g (k+1) []).j f)/\w.p (ω g k)=Z (.k l (rows.g k []).j e)/\To 0 w (.k m (rows.g (k+1) []).j f) (rows.g (k+1) [])/\To 0 w (.k l (rows.g k []).j e) (rows.g k []) ∧
  ∀W,μ w W->xE z lo ((W.x (ω g (k+1)) (.k l (rows.g k []).j e)).x (ω g k) (.k m (rows.g (k+1) []).j f)) v ((rows.set (k+1) (rows.g k [])).set k (rows.g (k+1) [])):=by
 obtain⟨c,E,r,x⟩:=h;obtain⟨g,d,rfl,H,s,C⟩:=yq r η;rw[Tn [] p,Tn [] (show k<rows.j by omega)];obtain⟨A,_⟩:=x (k+1) p η;obtain⟨B,_⟩:=x k η η;obtain⟨m,f,u⟩:=A.qy;obtain⟨l,e,y⟩:=B.qy;refine⟨g,d,m,f,l,e,rfl,H,s,vl r,by rw[←u];exact C _ _ (by simp[E,p]),by rw[←y];exact C _ _ (yn _),by rw[←u];exact A,by rw[←y];exact B,λW t=>?_⟩;rw[←u,←y];have F:=uD (zy r t) (k+1) η c[k];have I:=uD F k υ c[k+1];have J:zd [g] W ((W.x (ω g (k+1)) c[k]).x (ω g k) c[k+1]):=(zd.set _ _ _ _).A (zd.set _ _ _ _);have G:T3 W 30 [g]:=by have:=T3.own (zy r t);exact this
 refine⟨(c.set (k+1) c[k]).set k c[k+1],by simp[E],by simpa using I,λi a b=>?_⟩;simp only[fz] at a b;have q:∀j (D:j<rows.j) (n:j<c.j),Ut z ((W.x (ω g (k+1)) c[k]).x (ω g k) c[k+1]) c[j] rows[j]:=λj D n=>((x j D n).u t).saveT J G θ;simp only[lT];split;exact q (k+1) p η;split;exact q k η η;exact q i a b
end
def G4:∀(k:Nat) (l:List (κ)),(jJ l k).j=l.j
 |0,l=>rfl
 |k+1,l=>by
  unfold jJ;split
  .rw[G4 k];simp
  .rfl
def Ca{P:κ->Prop}:∀(k:Nat) (l:List (κ)),k<l.j->(∀y∈l,P y)->∀y∈jJ l k,P y
 |0,l,_,h=>h
 |k+1,l,b,h=>by
  unfold jJ;split
  .refine Ca k _ υ λy a=>?_;rw[Tn [] b,Tn [] (show k<l.j by omega)] at a;rcases mn a with q|rfl
   .rcases mn q with q|rfl
    .exact h y q
    .exact h _ (zq _)
   .exact h _ (zq _)
  .exact h
def dS(L:List z9)(n:ByteArray)(i:Nat):List (κ):=lO (L.G i) n
def B5{L:Θ}{n:ByteArray}{i:Nat}(h:i<L.j):dS L n (i+1)=if L[i].1=n then jJ (dS L n i++[L[i].2.1]) (dS L n i).j else dS L n i:=by
 unfold dS lO;rw[yN h,qZ];rfl
def C1{L:Θ}{n:ByteArray}:∀i,i<=L.j->(dS L n i).j<=i
 |0,_=>by simp[dS,lO]
 |i+1,h=>by
  rw[B5 h];have:=C1 (L:=L) (n:=n) i η;split
  .rw[G4];simp;omega
  .omega
def FM{L:Θ}{n:ByteArray}{b:Nat}(a:∀f∈L,f.1=n->f.2.1.j=b):∀i,i<=L.j->∀y∈dS L n i,y.j=b
 |0,_=>by simp[dS,lO]
 |i+1,h=>by
  rw[B5 h];have:=FM a i η;split
  .rename_i e;refine Ca _ _ ζ λy c=>?_;rcases ya.1 c with q|q
   .exact this y q
   .rw[xL.1 q];exact a _ (zq _) e
  .exact this
def SR:(prog.info? 30).map (λi=>(i.zero,i.q,i.bytes))=Z (Z (ν),1,24):=χ
def LH(w:World)(mb rd:Nat)(fv:O)(L:Θ)(a:ByteArray)(d:Nat)(hm:Ti w mb #[fv,ι rd] 54)(hf:yU z 0 w fv L)(hl:L.j<=1048576)(hk:∀f∈L,f.1=a->f.2.1.j=d)(aP:d<=1000):
  Calls prog 40 #[(π mb),.string a] w λe t=>∃v,e=.returned v/\X (xE z w.o.q t v (lO L a))/\X (μ w t):=by
 obtain⟨i0,aF,az,a6,a9⟩:=info_parts SR;obtain⟨aw,f1,f2,f3⟩:=hf;obtain⟨ao,aV,rfl⟩:=zr f2;have HF:X (∀i (p:i<L.j),∃g rv,ao=Z ⟨g,0,Y⟩/\g<w.o.q/\w.p ⟨g,i*3,Y⟩=Z (.string L[i].1)/\w.p ⟨g,i*3+1,Y⟩=Z rv/\Ut z w rv L[i].2.1):=λi p=>by
  obtain⟨g,aI,R,_,hg,hc⟩:=yq f2 η;cases R;refine⟨g,aw[i],rfl,hg,hc (i*3) _ ?_,hc (i*3+1) _ ?_,f3 i p η⟩;rw[show i*3=i*3+0 from rfl,m8 _ _ _ _ p η η];rfl;rw[m8 _ _ _ _ p η η];rfl
 have HK:=Th hk;have HA:=Th λi p=>FM hk i p;have aB:=Th λi p=>C1 (L:=L) (n:=a) i p;clear f1 f2 f3 hk;go_enter func40,ntmps40;go_wp2;go_loopw [5,6,7,8,9,10] (λv5 v6 _ _ _ _ wr=>∃(i:Nat) (lv:O),i<=L.j/\v6=ι i/\v5=lv/\X (xE z w.o.q wr lv (dS L a i))/\X (μ w wr)) (λ_ v6 _ _ _ _ _=>L.j-(intOf v6).toNat);exact⟨0,_,zs _,rfl,rfl,xE.nil _ _,zn _ _⟩;obtain⟨i,lv,p,rfl,aA,S,B⟩:=hrel;obtain rfl:=aA.symm;have ak:=hm.u B.l;obtain⟨hc,_,aX⟩:=ak.e;by_cases I:i<L.j
 .obtain⟨g,rv,a0,hg,c0,E,ag⟩:=HF.l i I;subst a0;have HS:=Th (B5 (n:=a) I);have x0:=zi B.l hg c0;have x1:=zi B.l hg E;have aS:=ym hg B.l.q;have H:=Th (ag.u B.l);have af:=Th (HA.l i p);have aL:=aB.l i p;have Q:=Th (HK.l _ (zq I));clear c0 E ag;obtain⟨T,D,aC⟩:=H.l.1.qy;subst aC;generalize dS L a i=c at *;by_cases K:L[i].1=a
  .have ac:=jq K;have al:=Th (Q.l K);have ay:=Th (HS.l.A (zb K));have aH:=B.l.q;obtain⟨u,j,R⟩:∃u j,lv=.k u c.j j:=by obtain⟨J,_,q,_⟩:=S.l;exact zr q
   subst R;clear Q HS K;generalize L[i].1=nm at *;generalize L[i].2.1=row at *;obtain⟨J,ax,ho,aa⟩:=S.l;have ab:=Th ho;have aq:X (∀w2 v',zd (O.ownBlock (.k u c.j j)).toList wr w2->w2.ownsRow w.o.q 30 1 v' (c.j+1) (J++[.k T row.j D])->xE z w.o.q w2 v' (c++[row])/\μ w w2):=λw2 v' hS h2=>⟨xE.push ax ho aa H.l hS h2,B.l.A (hS.u (λb P=>yW ho (xb P)) aH)⟩;clear ax aa S ho;go_wp2_with (at_builtin;refine kd wr _ [.k T row.j D] _ rfl (.tmp 30) (.tmp 39) 31 rfl w.o.q 30 i0 _ 1 24 underlying31 aF az a6 a9 rfl θ (.k u c.j j) c.j J rfl ab.l (zn _ _) _ _ rfl ζ rfl a_ η η η ?_;intro v2 w2 M av ar;obtain⟨a7,au,rfl⟩:=zr M)
   obtain⟨ai,am⟩:=aq.l _ _ av M;have ad:=Th ai;have an:=Th am;have ah:X (∀y∈c++[row],y.j=d):=λy hy=>by
    rcases ya.1 hy with q|q;exact af.l y q;rw[xL.1 q];exact al.l
   clear ai am aq ab av M ar af al H x0 x1 ac hc ak;go_loopw [8,9,10] (λv8 _ _ wq=>∃(k:Nat) (rows:List (κ)),k<=c.j/\v8=ι k/\X (rows.j=c.j+1)/\X (xE z w.o.q wq (.k a7 (c.j+1) au) rows)/\X (∀y∈rows,y.j=d)/\X (jJ (c++[row]) c.j=jJ rows k)/\X (μ w wq)) (λv8 _ _ _=>(intOf v8).toNat);exact⟨c.j,c++[row],zf _,rfl,by simp[X],ad,ah,rfl,an⟩;clear ad an ah;obtain⟨k,rows,aU,rfl,s,r,HW,G,m⟩:=hrel;rcases k with _|k
   .have F:=Th (ay.l.A G.l);go_wp2;go_roundw;exact⟨i+1,_,η,ξ,rfl,by rw[F.l];exact r.l,m⟩;simp[intOf];omega
   obtain⟨N,cp,o1,E,o2,c2,R,ae,A,aD,e1,e2,s1,s2,x⟩:=r.l.two (k:=k) (by rw[s.l];omega);have C:=R;rw[s.l] at C;simp only[O.slice.injEq] at C;have a1:=C.1;clear R C;subst a1;have la:(rows.g (k+1) []).j=d:=HW.l _ (by rw[Tn [] (by rw[s.l];omega)];exact zq _);have V:(rows.g k []).j=d:=HW.l _ (by rw[Tn [] (by rw[s.l];omega)];exact zq _);have aE:X (∀y∈(rows.set (k+1) (rows.g k [])).set k (rows.g (k+1) []),y.j=d):=λy hy=>by
    rcases mn hy with q|rfl;rcases mn q with q|rfl;exact HW.l y q;exact V;exact la
   have l:X (jJ (c++[row]) c.j=if yR (rows.g (k+1) []) (rows.g k []) then jJ ((rows.set (k+1) (rows.g k [])).set k (rows.g (k+1) [])) k else rows):=G.l;have a2:X (((rows.set (k+1) (rows.g k [])).set k (rows.g (k+1) [])).j=c.j+1):=by rw[X,fz,fz];exact s.l
   rw[la] at e1 x;rw[V] at e2 x;have aj:=Th x;have ap:X (∀W,μ wr W->Calls prog 81 #[.k o1 d E,.k o2 d c2] W λe t=>e=ε (.bool (yR (rows.g (k+1) []) (rows.g k [])))/\X (μ wr t)/\t.p ⟨N,k+1,Y⟩=Z (.k o1 d E)/\t.p ⟨N,k,Y⟩=Z (.k o2 d c2)):=λW P=>by
    have q:=LW W _ _ _ _ (s1.u P) (s2.u P) (V.A la.symm) η;rw[la,V] at q;refine q.y ?_;rintro e t ⟨h1,h2⟩;exact⟨h1,Tl P h2,zi (Tl P h2) A e1,zi (Tl P h2) A e2⟩
   clear s1 s2 x la V HW G;generalize rows.g (k+1) []=ra at *;generalize rows.g k []=rb at *;have aW:(k:Int)+1<(c.j:Int)+1:=η;have aN:(k:Int)<(c.j:Int)+1:=η;have aO:((k:Int)+1).toNat=k+1:=η;have aQ:(0:Int)<=(k:Int)+1:=η;have aM:IntKind.i64.wrap (((k:Int)+1)-1)=(k:Int):=(IntWalk.i64_in _ η).A η;have aT:IntKind.i64.wrap (((k+1:Nat):Int)-1)=(k:Int):=(IntWalk.i64_in _ η).A η;have aY:IntKind.i64.wrap (k:Int)=(k:Int):=IntWalk.i64_in _ η;have aK:IntKind.i64.wrap ((k:Int)+1)=(k:Int)+1:=IntWalk.i64_in _ η;go_wp2;go_region_held3 (λt=>t.p ⟨N,k+1,Y⟩=Z (.k o1 d E)/\t.p ⟨N,k,Y⟩=Z (.k o2 d c2)) (first|go_keep|(go_simp;done)) (first|(go_at_call 81;refine(ap.l _ φ).y ?_;rintro e w5 ⟨rfl,h,z0,z1⟩))
   have aJ:∀o,w5.frozen? ⟨N,o,Y⟩=false:=by obtain⟨_,_,q,_⟩:=r.l.u h.l;exact vl q
   have aR:=ym A h.l.q;have a5:=Th (aj.l w5 h.l);have a4:X (μ w ((w5.x ⟨N,k+1,Y⟩ (.k o2 d c2)).x ⟨N,k,Y⟩ (.k o1 d E))):=((m.l.A (h.l.y m.l.q)).x ae _).x ae _;have aG:=Th (r.l.u h.l);have a3:=Th (m.l.A (h.l.y m.l.q));clear aj ap e1 e2 aD A r m h;cases ha:yR ra rb
   .rw[ha] at l;have F:=Th (ay.l.A (l.l.A (za ζ)));clear ha l;go_wp2;go_roundw;exact⟨i+1,_,η,ξ,rfl,by rw[F.l];exact aG.l,a3⟩;simp[intOf];omega
   rw[ha] at l;have a8:=Th (l.l.A (zb rfl));clear ha l;go_wp2;go_roundw;exact⟨k,_,η,ξ,a2,a5,aE,a8,a4⟩;simp[intOf]
  have ac:=vU K;have F:=Th (HS.l.A (za K));clear Q HS K;generalize L[i].1=nm at *;go_wp2;go_roundw;exact⟨i+1,_,η,ξ,rfl,by rw[F.l];exact S.l,B⟩;simp[intOf];omega
 obtain rfl:i=L.j:=η;have F:X (dS L a L.j=lO L a):=by unfold X dS;rw[uY]
 go_wp2;go_ret;exact⟨_,rfl,by rw[←F.l];exact S.l,B⟩
end
end Go.Proofs.YteampbddflhngaaGreat
