import Derived.Test.YteampbddflhngaaGreatA14
namespace Go.Proofs.YteampbddflhngaaGreat
open List renaming length→List.j,getD→List.d,take→List.G
open _root_.Array renaming size→Array.q,getD→Array.d
open Go.RowKit.Below renaming size→Go.RowKit.Below.q,setCell→Go.RowKit.Below.x,mono→Go.RowKit.Below.y,trans→Go.RowKit.Below.A
open Go.TypeInfo renaming size→Go.TypeInfo.q
open Go.RowKit.Hid renaming out→Go.RowKit.Hid.l
open Go.Shut renaming out→Go.Shut.l
open Go.World renaming heap→Go.World.o,setCell→Go.World.x,cell?→Go.World.p
open Go.Value renaming slice→Go.Value.k
open Go.TypeDesc renaming slice→Go.TypeDesc.k
open Option renaming getD→Option.d,some→Z,none→Y
open Go.Calls renaming mono→Go.Calls.y
open Eq renaming trans→Eq.A
open Go.RowKit renaming Hid→X,intOf→d_
open Go renaming Value→O
set_option linter.all false
set_option maxRecDepth 100000
set_option maxHeartbeats 8000000
open Go.Proofs.Tryz Go.RowKit
section
variable {z:Nat->Prop}
section
variable {lo:Nat} {w w2:World} {v:O} {rows:List (κ)}
def xF.push{rvs:Γ}(j:rvs.j=rows.j)(f:w.ownsRow lo 30 1 v rows.j rvs)(l:∀i (h:i<rows.j) (f:i<rvs.j),VK z w rvs[i] rows[i]){c v':O}{row:List Λ}(k:VK z w c row)(d:zc v.ownBlock.toList w w2)(m:w2.ownsRow lo 30 1 v' (rows.j+1) (rvs++[c])):xF z lo w2 v' (rows++[row]):=by
 have e:UP w 30 v.ownBlock.toList:=UP.own f;refine⟨rvs++[c],by simp[j],by simpa using m,λi a b=>?_⟩;by_cases g:i<rows.j;rw[uI η,uI g];exact(l i g η).saveT d e θ;rw[mh η,mh η];simp only[List.getElem_singleton];exact k.saveT d e θ
def xF.two(h:xF z lo w v rows){k:Nat}(p:k+1<rows.j):∃g d l n e m,v=.k (Z (δ g)) rows.j d/\lo<=g/\g<w.o.q/\(∀o,w.frozen? (ω g o)=false)/\w.p (ω g (k+1))=Z (.k l (rows.d (k+1) []).j n)/\w.p (ω g k)=Z (.k e (rows.d k []).j m)/\U7 0 w (.k l (rows.d (k+1) []).j n) (rows.d (k+1) [])/\U7 0 w (.k e (rows.d k []).j m) (rows.d k []) ∧
  ∀W,μ w W->xF z lo ((W.x (ω g (k+1)) (.k e (rows.d k []).j m)).x (ω g k) (.k l (rows.d (k+1) []).j n)) v ((rows.set (k+1) (rows.d k [])).set k (rows.d (k+1) [])):=by
 obtain⟨c,B,r,u⟩:=h;obtain⟨g,d,rfl,G,t,C⟩:=yt r η;rw[U8 [] p,U8 [] (show k<rows.j by omega)];obtain⟨D,_⟩:=u (k+1) p η;obtain⟨A,_⟩:=u k η η;obtain⟨l,n,y⟩:=D.qm;obtain⟨e,m,x⟩:=A.qm;refine⟨g,d,l,n,e,m,rfl,G,t,uv r,by rw[←y];exact C _ _ (by simp[B,p]),by rw[←x];exact C _ _ (yn _),by rw[←y];exact D,by rw[←x];exact A,λW s=>?_⟩;rw[←y,←x];have I:=um (zy r s) (k+1) η c[k];have J:=um I k υ c[k+1];have H:zc [g] W ((W.x (ω g (k+1)) c[k]).x (ω g k) c[k+1]):=(zc.set _ _ _ _).A (zc.set _ _ _ _);have F:UP W 30 [g]:=by have:=UP.own (zy r s);exact this
 refine⟨(c.set (k+1) c[k]).set k c[k+1],by simp[B],by simpa using J,λi a b=>?_⟩;simp only[dG] at a b;have q:∀j (E:j<rows.j) (f:j<c.j),VK z ((W.x (ω g (k+1)) c[k]).x (ω g k) c[k+1]) c[j] rows[j]:=λj E f=>((u j E f).u s).saveT H F θ;simp only[fG];split;exact q (k+1) p η;split;exact q k η η;exact q i a b
end
def D2:∀(k:Nat) (l:List (List Λ)),(jN l k).j=l.j
 |0,l=>rfl
 |k+1,l=>by
  unfold jN;split
  .rw[D2 k];simp
  .rfl
def G8{P:List Λ->Prop}:∀(k:Nat) (l:List (List Λ)),k<l.j->(∀y∈l,P y)->∀y∈jN l k,P y
 |0,l,_,h=>h
 |k+1,l,b,h=>by
  unfold jN;split
  .refine G8 k _ υ λy a=>?_;rw[U8 [] b,U8 [] (show k<l.j by omega)] at a;rcases mA a with q|rfl
   .rcases mA q with q|rfl
    .exact h y q
    .exact h _ (zr _)
   .exact h _ (zr _)
  .exact h
def dX(L:List zB)(n:ByteArray)(i:Nat):List (κ):=lR (L.G i) n
def o8{L:Θ}{n:Λ}{i:Nat}(h:i<L.j):dX L n (i+1)=if L[i].1=n then jN (dX L n i++[L[i].2.1]) (dX L n i).j else dX L n i:=by
 unfold dX lR;rw[yF h,j4];rfl
def DT{L:Θ}{n:Λ}:∀i,i<=L.j->(dX L n i).j<=i
 |0,_=>by simp[dX,lR]
 |i+1,h=>by
  rw[o8 h];have:=DT (L:=L) (n:=n) i η;split
  .rw[D2];simp;omega
  .omega
def EX{L:Θ}{n:Λ}{b:Nat}(a:∀f∈L,f.1=n->f.2.1.j=b):∀i,i<=L.j->∀y∈dX L n i,y.j=b
 |0,_=>by simp[dX,lR]
 |i+1,h=>by
  rw[o8 h];have:=EX a i η;split
  .rename_i e;refine G8 _ _ ζ λy c=>?_;rcases zW.1 c with q|q
   .exact this y q
   .rw[xo.1 q];exact a _ (zr _) e
  .exact this
def Ue:(prog.info? 30).map (λi=>(i.zero,i.q,i.bytes))=Z (Z (ν),1,24):=χ
def OC(w:World)(mb rd:Nat)(fv:O)(L:Θ)(a:Λ)(d:Nat)(hm:U3 w mb #[fv,ι rd] 54)(hf:yX z 0 w fv L)(hl:L.j<=1048576)(hk:∀f∈L,f.1=a->f.2.1.j=d)(aP:d<=1000):
  Calls prog 40 #[(π mb),.string a] w λe t=>∃v,e=.returned v/\X (xF z w.o.q t v (lR L a))/\X (μ w t):=by
 obtain⟨i0,aB,a2,az,aD⟩:=info_parts Ue;obtain⟨al,f1,f2,f3⟩:=hf;obtain⟨ao,aS,rfl⟩:=zq f2;have HF:X (∀i (s:i<L.j),∃g rv,ao=Z ⟨g,0,Y⟩/\g<w.o.q/\w.p ⟨g,i*3,Y⟩=Z (.string L[i].1)/\w.p ⟨g,i*3+1,Y⟩=Z rv/\VK z w rv L[i].2.1):=λi s=>by
  obtain⟨g,aH,R,_,hg,hc⟩:=yt f2 η;cases R;refine⟨g,al[i],rfl,hg,hc (i*3) _ ?_,hc (i*3+1) _ ?_,f3 i s η⟩;rw[show i*3=i*3+0 from rfl,rC _ _ _ _ s η η];rfl;rw[rC _ _ _ _ s η η];rfl
 have HK:=U2 hk;have HA:=U2 λi s=>EX hk i s;have aF:=U2 λi s=>DT (L:=L) (n:=a) i s;clear f1 f2 f3 hk;go_enter func40,ntmps40;go_wp2;go_loopw [5,6,7,8,9,10] (λv5 v6 _ _ _ _ wr=>∃(i:Nat) (lv:O),i<=L.j/\v6=ι i/\v5=lv/\X (xF z w.o.q wr lv (dX L a i))/\X (μ w wr)) (λ_ v6 _ _ _ _ _=>L.j-(d_ v6).toNat);exact⟨0,_,zs _,rfl,rfl,xF.nil _ _,zn _ _⟩;obtain⟨i,lv,s,rfl,a5,HO,B⟩:=hrel;obtain rfl:=a5.symm;have ag:=hm.u B.l;obtain⟨hc,_,aL⟩:=ag.I;by_cases F:i<L.j
 .obtain⟨g,rv,a8,hg,c0,M,ad⟩:=HF.l i F;subst a8;have HS:=U2 (o8 (n:=a) F);have x0:=zi B.l hg c0;have x1:=zi B.l hg M;have aT:=yh hg B.l.q;have E:=U2 (ad.u B.l);have ac:=U2 (HA.l i s);have aR:=aF.l i s;have P:=U2 (HK.l _ (zr F));clear c0 M ad;obtain⟨ah,D,aA⟩:=E.l.1.qm;subst aA;generalize dX L a i=c at *;by_cases J:L[i].1=a
  .have af:=qH J;have aa:=U2 (P.l J);have an:=U2 (HS.l.A (zb J));have aC:=B.l.q;obtain⟨A,j,R⟩:∃A j,lv=.k A c.j j:=by obtain⟨I,_,q,_⟩:=HO.l;exact zq q
   subst R;clear P HS J;generalize L[i].1=nm at *;generalize L[i].2.1=row at *;obtain⟨I,aq,ho,ai⟩:=HO.l;have S:=U2 ho;have V:X (∀w2 v',zc (O.ownBlock (.k A c.j j)).toList wr w2->w2.ownsRow w.o.q 30 1 v' (c.j+1) (I++[.k ah row.j D])->xF z w.o.q w2 v' (c++[row])/\μ w w2):=λw2 v' hS h2=>⟨xF.push aq ho ai E.l hS h2,B.l.A (hS.u (λb N=>yZ ho (yA N)) aC)⟩;clear aq ai HO ho;go_wp2_with (at_builtin;refine jx wr _ [.k ah row.j D] _ rfl (.tmp 30) (.tmp 39) 31 rfl w.o.q 30 i0 _ 1 24 underlying31 aB a2 az aD rfl θ (.k A c.j j) c.j I rfl S.l (zn _ _) _ _ rfl ζ rfl a_ η η η ?_;intro v2 w2 G ar ax;obtain⟨aG,ak,rfl⟩:=zq G)
   obtain⟨av,au⟩:=V.l _ _ ar G;have am:=U2 av;have ae:=U2 au;have ap:X (∀y∈c++[row],y.j=d):=λy hy=>by
    rcases zW.1 hy with q|q;exact ac.l y q;rw[xo.1 q];exact aa.l
   clear av au V S ar G ax ac aa E x0 x1 af hc ag;go_loopw [8,9,10] (λv8 _ _ wq=>∃(k:Nat) (rows:List (List Λ)),k<=c.j/\v8=ι k/\X (rows.j=c.j+1)/\X (xF z w.o.q wq (.k aG (c.j+1) ak) rows)/\X (∀y∈rows,y.j=d)/\X (jN (c++[row]) c.j=jN rows k)/\X (μ w wq)) (λv8 _ _ _=>(d_ v8).toNat);exact⟨c.j,c++[row],ze _,rfl,by simp[X],am,ap,rfl,ae⟩;clear am ae ap;obtain⟨k,rows,aQ,rfl,r,p,HW,K,m⟩:=hrel;rcases k with _|k
   .have Q:=U2 (an.l.A K.l);go_wp2;go_roundw;exact⟨i+1,_,η,ξ,rfl,by rw[Q.l];exact p.l,m⟩;simp[d_];omega
   obtain⟨H,cp,o1,M,o2,c2,R,aj,C,aE,e1,e2,s1,s2,x⟩:=p.l.two (k:=k) (by rw[r.l];omega);have u:=R;rw[r.l] at u;simp only[O.slice.injEq] at u;have a7:=u.1;clear R u;subst a7;have la:(rows.d (k+1) []).j=d:=HW.l _ (by rw[U8 [] (by rw[r.l];omega)];exact zr _);have T:(rows.d k []).j=d:=HW.l _ (by rw[U8 [] (by rw[r.l];omega)];exact zr _);have a6:X (∀y∈(rows.set (k+1) (rows.d k [])).set k (rows.d (k+1) []),y.j=d):=λy hy=>by
    rcases mA hy with q|rfl;rcases mA q with q|rfl;exact HW.l y q;exact T;exact la
   have l:X (jN (c++[row]) c.j=if yV (rows.d (k+1) []) (rows.d k []) then jN ((rows.set (k+1) (rows.d k [])).set k (rows.d (k+1) [])) k else rows):=K.l;have a0:X (((rows.set (k+1) (rows.d k [])).set k (rows.d (k+1) [])).j=c.j+1):=by rw[X,dG,dG];exact r.l
   rw[la] at e1 x;rw[T] at e2 x;have aw:=U2 x;have ab:X (∀W,μ wr W->Calls prog 81 #[.k o1 d M,.k o2 d c2] W λe t=>e=ε (.bool (yV (rows.d (k+1) []) (rows.d k [])))/\X (μ wr t)/\t.p ⟨H,k+1,Y⟩=Z (.k o1 d M)/\t.p ⟨H,k,Y⟩=Z (.k o2 d c2)):=λW N=>by
    have q:=Rr W _ _ _ _ (s1.u N) (s2.u N) (T.A la.symm) η;rw[la,T] at q;refine q.y ?_;rintro e t ⟨h1,h2⟩;exact⟨h1,U6 N h2,zi (U6 N h2) C e1,zi (U6 N h2) C e2⟩
   clear s1 s2 x la T HW K;generalize rows.d (k+1) []=ra at *;generalize rows.d k []=rb at *;have aX:(k:Int)+1<(c.j:Int)+1:=η;have aO:(k:Int)<(c.j:Int)+1:=η;have aK:((k:Int)+1).toNat=k+1:=η;have aM:(0:Int)<=(k:Int)+1:=η;have aN:IntKind.i64.wrap (((k:Int)+1)-1)=(k:Int):=(IntWalk.i64_in _ η).A η;have aU:IntKind.i64.wrap (((k+1:Nat):Int)-1)=(k:Int):=(IntWalk.i64_in _ η).A η;have aW:IntKind.i64.wrap (k:Int)=(k:Int):=IntWalk.i64_in _ η;have aV:IntKind.i64.wrap ((k:Int)+1)=(k:Int)+1:=IntWalk.i64_in _ η;go_wp2;go_region_held3 (λt=>t.p ⟨H,k+1,Y⟩=Z (.k o1 d M)/\t.p ⟨H,k,Y⟩=Z (.k o2 d c2)) (first|go_keep|(go_simp;done)) (first|(go_at_call 81;refine(ab.l _ φ).y ?_;rintro e w5 ⟨rfl,h,z0,z1⟩))
   have aI:∀o,w5.frozen? ⟨H,o,Y⟩=false:=by obtain⟨_,_,q,_⟩:=p.l.u h.l;exact uv q
   have aJ:=yh C h.l.q;have a3:=U2 (aw.l w5 h.l);have a1:X (μ w ((w5.x ⟨H,k+1,Y⟩ (.k o2 d c2)).x ⟨H,k,Y⟩ (.k o1 d M))):=((m.l.A (h.l.y m.l.q)).x aj _).x aj _;have a9:=U2 (p.l.u h.l);have ay:=U2 (m.l.A (h.l.y m.l.q));clear aw ab e1 e2 aE C p m h;cases ha:yV ra rb
   .rw[ha] at l;have Q:=U2 (an.l.A (l.l.A (za ζ)));clear ha l;go_wp2;go_roundw;exact⟨i+1,_,η,ξ,rfl,by rw[Q.l];exact a9.l,ay⟩;simp[d_];omega
   rw[ha] at l;have a4:=U2 (l.l.A (zb rfl));clear ha l;go_wp2;go_roundw;exact⟨k,_,η,ξ,a0,a3,a6,a4,a1⟩;simp[d_]
  have af:=vn J;have Q:=U2 (HS.l.A (za J));clear P HS J;generalize L[i].1=nm at *;go_wp2;go_roundw;exact⟨i+1,_,η,ξ,rfl,by rw[Q.l];exact HO.l,B⟩;simp[d_];omega
 obtain rfl:i=L.j:=η;have Q:X (dX L a L.j=lR L a):=by unfold X dX;rw[ve]
 go_wp2;go_ret;exact⟨_,rfl,by rw[←Q.l];exact HO.l,B⟩
end
end Go.Proofs.YteampbddflhngaaGreat
