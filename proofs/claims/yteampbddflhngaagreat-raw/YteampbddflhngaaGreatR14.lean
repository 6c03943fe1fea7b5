import Derived.Test.YteampbddflhngaaGreatR09
import Derived.Test.YteampbddflhngaaGreatR12
namespace Go.Proofs.YteampbddflhngaaGreat
open List renaming length→List.j,take→List.G
open _root_.Array renaming size→Array.q
open _root_.ByteArray renaming size→ByteArray.q
open Go.RowKit.Below renaming size→Go.RowKit.Below.q
open Go.RowKit.Hid renaming out→Go.RowKit.Hid.l
open Go.World renaming heap→Go.World.o
open Go.Calls renaming mono→Go.Calls.y
open Int renaming toNat→Int.D
open Option renaming some→Z
open Go.RowKit renaming Hid→X
open Go renaming World→U,Value→O
set_option linter.all false
set_option maxRecDepth 100000
set_option maxHeartbeats 4000000
open Go.Proofs.Tryz Go.RowKit
section
variable {lo:Nat}{l:List Int}{os:List (Option (List Int))}
def nf(n:Nat)(l:List Int):Bool:=(List.range n).all λk=>decide (l.count (k:Int)=1)
def Cx(n:Nat):∀(l:List Int) (a:List Bool),a.j=5->l.Nodup->(∀x∈l,0<=x/\x<(n:Int)/\x<5/\a.getD x.D false=false)->jQ n l a=true
 |[],_,_,_,_=>rfl
 |x::l,a,k,c,d=>by
  obtain⟨m,p,o,g⟩:=d x ζ;rw[jQ,za η,za (by rw[g];decide)];refine Cx n l _ (by simp[k]) (jp.1 c).2 λy b=>?_;obtain⟨f,h,j,i⟩:=d y (by simp[b]);refine⟨f,h,j,?_⟩;rw[nS,za]
  .exact i
  .rintro⟨e,_⟩;have:x=y:=η;subst this;exact(jp.1 c).1 b
def Po(s:l.j<=5):nf l.j l=r8 l:=by
 have p:((List.range l.j).map (Nat.cast:Nat->Int)).Nodup:=mT.2 (List.Pairwise.imp (fun{a b} h e=>h η) List.nodup_range);rw[Bool.eq_iff_iff];constructor;intro h;have m:∀k,k<l.j->l.count (k:Int)=1:=λk d=>by simpa using gd.1 h k (qG.2 d)
 have g:∀x∈l,0<=x/\x<(l.j:Int):=λx c=>by
  by_cases i:x∈(List.range l.j).map (Nat.cast:Nat->Int);obtain⟨k,d,rfl⟩:=zF.1 i;have:=qG.1 d;omega;exfalso;have:=mU p (l2:=l.erase x) (λy f=>(me (by rintro rfl;exact i f)).2 (by
   obtain⟨k,d,rfl⟩:=zF.1 f;exact List.count_pos_iff.1 (by rw[m k (qG.1 d)];omega)))
  rw[xu,pE,mN c] at this;have:=nI c;omega
 have j:l.Nodup:=List.nodup_iff_count.2 λx=>by
  by_cases c:x∈l;obtain⟨a,b⟩:=g x c;have:=m x.D η;rw[Int.toNat_of_nonneg a] at this;omega;rw[List.count_eq_zero.2 c];omega
 exact Cx _ l _ rfl j λx c=>by
  obtain⟨a,b⟩:=g x c;refine⟨a,b,η,?_⟩;have:x=0∨x=1∨x=2∨x=3∨x=4:=η;rcases this with rfl|rfl|rfl|rfl|rfl<;>rfl
 intro h;obtain⟨n,c⟩:=Bg h rfl;refine gd.2 λk d=>?_;have d:=qG.1 d;have o:(k:Int)∈l:=by
  by_cases i:(k:Int)∈l;exact i;exfalso;have:=mU n (l2:=((List.range l.j).map (Nat.cast:Nat->Int)).erase (k:Int)) (λy f=>(me (by rintro rfl;exact i f)).2 (by
   obtain⟨a,b,_⟩:=c y f;exact zF.2 ⟨y.D,qG.2 η,η⟩))
  rw[mN (zF.2 ⟨k,qG.2 d,rfl⟩),xu,pE] at this;omega
 have r:=List.nodup_iff_count.1 n (k:Int);have q:=List.count_pos_iff.2 o;simp only[decide_eq_true_eq];omega
def M7{j:Nat}(a:j<l.j)(k:Int):(l.G (j+1)).count k=(l.G j).count k+if l[j]=k then 1 else 0:=by
 rw[yM a,List.count_append,List.count_singleton];by_cases h:l[j]=k<;>simp[h]
def QT(m:Nat):nf (m+1) l=(nf m l&&decide (l.count (m:Int)=1)):=by
 unfold nf;rw[oj,List.all_append];simp
def OT{n m:Nat}(a:m<n)(h:l.count (m:Int)≠1):nf n l=false:=by
 cases b:nf n l;rfl;have:=gd.1 b m (qG.2 a);exact zB (by simpa using this) h
def D6(w:U)(q vb:O)(o:Option (List Int))(j:xV w q o)(n:xV w vb o)(G:(o.getD []).j<=281474976710656):
  Calls prog 18 #[q,vb] w λe D=>e=ε (.bool true)/\μ w D:=by
 obtain⟨H,v,rfl⟩:=j.qy;obtain⟨A,p,rfl⟩:=n.qy;have u:=Tg λk (h:k<(o.getD []).j)=>j.cell k h;have C:=Tg λk (h:k<(o.getD []).j)=>n.cell k h;clear j n;generalize o.getD []=l at *;go_enter func18,ntmps18;go_wp2;go_loopw [5] (λi wr=>∃k:Nat,k<=l.j/\i=ι k/\μ w wr) (λi _=>l.j-(intOf i).D);exact⟨0,zs _,rfl,zn _ _⟩;obtain⟨k,h,rfl,a⟩:=hrel;have r:=a.q;by_cases d:k<l.j
 .obtain⟨g,f,rfl,y,c⟩:=u.l k d;obtain⟨E,F,rfl,m,b⟩:=C.l k d;have z:=zi a y c;have t:=zi a m b;have B:g<wr.o.q:=η;have s:E<wr.o.q:=η;clear c b;generalize l[k]=x at *;go_wp2;go_quiet (fail)
  go_wp2;go_roundw;exact⟨k+1,η,ξ,zI a _⟩;simp[intOf];omega
 go_wp2;go_ret;exact⟨rfl,a⟩
def Lu{cs:Ξ}{k:Nat}(b:k<cs.j)(a:k<os.j)(h:vz cs[k] os[k]=false):vC cs (Z os)=false:=by
 unfold vC;rw[eM];refine ze (List.all_eq_false.2 ⟨(cs[k],os[k]),vL.2 ⟨k,by simp;omega,ζ⟩,by simp[h]⟩)
def NZ{cs:Ξ}(c:os.j=cs.j)(h:∀k (a:k<cs.j) (d:k<os.j),vz cs[k] os[k]=true):vC cs (Z os)=true:=by
 unfold vC;simp only[uK,beq_iff_eq,gd];refine⟨c,λx b=>?_⟩;obtain⟨k,a,rfl⟩:=vL.1 b;simp only[List.length_zip] at a;simpa using h k η η
def J0{c:zc}(b:(zx c).j<=5):vz c (Z l)=(l.j == (zx c).j&&nf (zx c).j l):=by
 unfold vz;by_cases a:l.j=(zx c).j;rw[←a,Po η];dsimp only;rw[beq_false_of_ne a];rfl
def mM(w:U)(v:O)(a:List O):Prop:=∃c b,v=.slice c a.j b/\∀k (h:k<a.j),∃g f,c=Z ⟨g,f,none⟩/\g<w.o.q/\w.cell? ⟨g,f+k,none⟩=Z a[k]
def mM.u{w w':U}{v:O}{b:Γ}(h:mM w v b)(d:μ w w'):mM w' v b:=by
 obtain⟨n,a,j,i⟩:=h;refine⟨n,a,j,λk m=>?_⟩;obtain⟨g,f,e,c,o⟩:=i k m;exact⟨g,f,e,ym c d.q,zi d c o⟩
def Js(w:U)(mb:Nat)(lv:O)(cs:Ξ)(t:Ψ)(us:Γ)(os:List (Option (List Int)))(hm:jG lo w mb cs t)(ho:mM w lv us)(ai:us.j=os.j)(al:∀k (s:k<us.j) (D:k<os.j),xV w us[k] os[k])(ap:∀o∈os,(o.getD []).j<=2000000)(af:∀c∈cs,c.d.j<=999/\xj (zm c)<=1000/\(zx c).j<=5/\∀l∈zm c,∀t∈l.k,0<t.q)(aI:cs.j<=1000):
  Calls prog 75 #[(π mb),lv,.bool false] w λe w'=>e=ε (.bool (vC cs (Z os)))/\μ w w':=by
 obtain⟨_,cv,pv,kv,aa,T,_,_⟩:=hm;obtain⟨ao,a9,rfl⟩:=T.qy;obtain⟨ar,a3,rfl,P⟩:=ho;have I:∀k (s:k<os.j),∃E fl u,ar=Z (ω E fl)/\E<w.o.q/\w.cell? (ω E (fl+k))=Z u/\xV w u os[k]:=λk s=>by
  obtain⟨g,f,e,D,h3⟩:=P k η;exact⟨g,f,_,e,D,h3,al k η s⟩
 clear P al;rw[ai];clear ai;obtain⟨aB,aK,aG⟩:=aa.e;by_cases d:os.j=cs.j
 .rw[d];have ay:=Tg af;have av:=Tg ap;have HC:=Tg I;have HL:=Tg d;clear af ap I d;go_enter func75,ntmps75;go_wp2;go_loopw [7] (λv7 wr=>∃k:Nat,k<=cs.j/\v7=ι k/\μ w wr/\X (∀j (s:j<cs.j) (D:j<os.j),j<k->vz cs[j] os[j]=true)) (λi _=>cs.j-(intOf i).D);exact⟨0,zs _,rfl,zn _ _,λj _ _ h=>η⟩;obtain⟨k,hk,rfl,b,HD⟩:=hrel;have a2:=b.q;have ak:=aa.u b;obtain⟨aF,a8,aC⟩:=ak.e;by_cases B:k<cs.j
  .have M:k<os.j:=by rw[HL.l];exact B
   obtain⟨g,aJ,a4,aH,a5,rfl,v⟩:=T.at k B;obtain⟨aD,ag,az,ac⟩:=ay.l _ (zq B);have aj:=av.l _ (zq M);obtain⟨E,fl,u,rfl,a1,hu,A⟩:=HC.l k M;have y:=zi b a1 hu;have p:E<wr.o.q:=η;have A:=A.u b;have v:=v.u b;have HF:=Tg fun(h:vz cs[k] os[k]=false)=>Lu B M h;have HT:X (vz cs[k] os[k]=true->∀j (s:j<cs.j) (D:j<os.j),j<k+1->vz cs[j] os[j]=true):=λh j s D hj=>by
    by_cases e:j=k;subst e;exact h;exact HD.l j s D η
   clear HD hu;generalize cs[k]=c at *;generalize os[k]=o at *;have HV:=Tg (Bz wr true g (k*4) c _ _ _ _ v η ag ac);rw[GN] at HV;have a6:=v.lt;clear ag ac v;rcases o with _|l
   .have h0:u=ν:=A;subst h0;have J:∀W:U,(binOp .eql 24 (ν) (ν)).run prog W=.ok (.bool true) W:=λW=>by
     have:=run_equal_slice_nil W 24 3 none 0 0 underlying24;simp[binOp,this]
    go_wp2_with (go_at_call 108;refine HV.l.y ?_;rintro e G ⟨vv,rfl,q,a⟩;obtain⟨R,L,rfl⟩:=q.qy;have r:=Tk b a;have C:=zi a p y;have z:E<G.o.q:=(by have:=a.q;omega))
    go_roundw;exact⟨k+1,η,ξ,r,HT.l rfl⟩;simp[intOf];omega
   obtain⟨ad,F,rfl,K⟩:=A;have J:∀W:U,(binOp .eql 24 (.slice (Z ad) l.j F) (ν)).run prog W=.ok (.bool false) W:=λW=>by
    have:=run_equal_slice_nil W 24 3 (Z ad) l.j F underlying24;simp[binOp,this]
   have HE:=Tg (J0 (l:=l) az);have aw:l.j<=2000000:=aj;generalize zx c=vs at *;by_cases V:l.j=vs.j
   .rw[V] at y J;have ae:=Tg K;have S:=Tg V;have ah:X (vz c (Z l)=nf vs.j l):=by
     show _=_;rw[HE.l,V,beq_self_eq_true];rfl
    clear V K HE aw aj;go_wp2_with (go_at_call 108;refine HV.l.y ?_;rintro e G ⟨vv,rfl,q,a⟩;obtain⟨R,L,rfl⟩:=q.qy;have r:=Tk b a;have C:=zi a p y;have z:E<G.o.q:=(by have:=a.q;omega))
    have am:X (∀j (h:j<l.j),∃g f,ad=(ω g f)/\g<G.o.q/\G.cell? (ω g (f+j))=Z (ι l[j])):=λj h=>by
     obtain⟨g,f,e,q1,q2⟩:=ae.l j h;exact⟨g,f,e,ym q1 a.q,zi a q1 q2⟩
    clear ae y HV p q a;go_loopw [9] (λv9 wj=>∃m:Nat,m<=vs.j/\v9=ι m/\wj=G/\X (nf m l=true)) (λi _=>vs.j-(intOf i).D);exact⟨0,zs _,rfl,rfl,rfl⟩;obtain⟨m,hm,rfl,rfl,HM⟩:=hrel;by_cases a0:m<vs.j
    .go_wp2;go_loopw [10,11] (λax au wi=>∃(j n:Nat),j<=vs.j/\n<=j/\au=ι j/\ax=ι n/\wi=wr/\X (n=(l.G j).count (m:Int))) (λ_ i _=>vs.j-(intOf i).D);exact⟨0,0,zs _,zs _,rfl,rfl,rfl,by simp[X]⟩;obtain⟨j,n,hj,aA,rfl,rfl,rfl,HN⟩:=hrel;by_cases aq:j<vs.j
     .have H:j<l.j:=by rw[S.l];exact aq
      obtain⟨g2,f2,rfl,a7,aE⟩:=am.l j H;have ab:=Tg (M7 H (m:Int));generalize l[j]=x at *;by_cases N:x=(m:Int)
      .subst N;go_wp2;go_roundw;exact⟨j+1,n+1,η,η,ξ,ξ,trivial,by show _=_;rw[ab.l,←HN.l];simp⟩;simp[intOf];omega
      have hb:(x == (m:Int))=false:=beq_false_of_ne N;go_wp2;go_roundw;exact⟨j+1,n,η,η,ξ,rfl,trivial,by show _=_;rw[ab.l,←HN.l,za N];rfl⟩;simp[intOf];omega
     have Q:X (n=l.count (m:Int)):=by
      show _=_;rw[HN.l,yV (by rw[S.l];omega)]
     by_cases s:n=1
     .subst s;go_wp2;go_roundw;exact⟨m+1,η,ξ,trivial,by show _=_;rw[QT,HM.l,←Q.l];rfl⟩;simp[intOf];omega
     have an:((n:Int) != 1)=true:=by rw[bne_iff_ne];omega
     go_wp2;go_ret;exact⟨by rw[HF.l (by rw[ah.l];exact OT a0 (by rw[←Q.l];exact s))];rfl,r⟩
    go_wp2;go_roundw;exact⟨k+1,η,ξ,r,HT.l (by rw[ah.l,show vs.j=m from by omega];exact HM.l)⟩;simp[intOf];omega
   have an:((l.j:Int) != (vs.j:Int))=true:=by rw[bne_iff_ne];omega
   go_wp2_with (go_at_call 108;refine HV.l.y ?_;rintro e G ⟨vv,rfl,q,a⟩;obtain⟨R,L,rfl⟩:=q.qy;have r:=Tk b a;have C:=zi a p y;have z:E<G.o.q:=(by have:=a.q;omega))
   go_ret;exact⟨by rw[HF.l (by rw[HE.l];simp[V])];rfl,r⟩
  go_wp2;go_ret;exact⟨by rw[NZ HL.l λj s D=>HD.l j s D η];rfl,b⟩
 have an:((os.j:Int) != (cs.j:Int))=true:=by rw[bne_iff_ne];omega
 have hB:vC cs (Z os)=false:=by unfold vC;simp[d]
 rw[hB];go_enter func75,ntmps75;go_wp2;go_ret;exact⟨rfl,φ⟩
end
end Go.Proofs.YteampbddflhngaaGreat
