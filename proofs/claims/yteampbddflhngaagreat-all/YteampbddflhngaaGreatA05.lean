import Derived.Test.YteampbddflhngaaGreatA01
namespace Go.Proofs.YteampbddflhngaaGreat
open List renaming length→List.j
open _root_.Array renaming size→Array.q,toList→Array.v
open _root_.ByteArray renaming size→ByteArray.q,toList→ByteArray.v,empty→g_
open Go.TypeInfo renaming size→Go.TypeInfo.q
open Go.Calls renaming mono→Go.Calls.y
open Go.Value renaming bool→Go.Value.i,cells→Go.Value.E
open Go.TypeDesc renaming bool→Go.TypeDesc.i
open Go.Obj renaming cells→Go.Obj.E
open Option renaming some→Z,none→Y
open Go renaming World→U,Value→O,Calls→c_
open Go.Proofs.Tryz renaming prog→e_
set_option linter.all false
set_option maxRecDepth 100000
set_option maxHeartbeats 2000000
open Go.Proofs.Tryz Go.RowKit
def Nh(w:U)(v:O)(x:Λ)(L:List Λ)(f:SV w v (x::L))(g:∀y∈L,0<y.q)(z:(x.v == [33])=true)(p:L.j<=500)(q:L.j=0):
  c_ e_ 152 #[v,.i false] w λe n=>jV Y w e n:=by
 obtain⟨o,s,i,k,l⟩:=info_parts Uw;obtain⟨m,j,rfl⟩:=f.qm;obtain⟨t,u,rfl,b,a⟩:=f.E ζ;have d:=a 0 ζ;rw[vB,dB] at d;go_enter func152,ntmps152;go_wp2_with (refine jE _ w rfl (.tmp 26) 30 9 (Z (.const (ι 1))) Y rfl underlying30 o s TW _ (x::L) rfl f 1 (L.j+1) (zg rfl) (zh ⟨rfl,rfl⟩) η ζ L.j η ?_;intro r h c;simp only[mP,fA,ve] at c)
 exact zP (v:=.tuple #[.agg #[.i true,.string g_,ν],.i false]) (by simp[results,results152,go_sem];try rfl) rfl ⟨γ,_,_,_,_,_,rfl⟩
def MC(w:U)(v:O)(x:Λ)(L:List Λ)(k:SV w v (x::L))(j:∀y∈L,0<y.q)(G:(x.v == [33])=true)(A:L.j<=500)(B:¬L.j=0)(hs:xg (UC (gB L 0) 0)=false):
  c_ e_ 152 #[v,.i false] w λe n=>jV Y w e n:=by
 obtain⟨z,D,m,s,t⟩:=info_parts Uw;obtain⟨u,p,rfl⟩:=k.qm;obtain⟨E,F,rfl,h,c⟩:=k.E ζ;have i:=c 0 ζ;rw[vB,dB] at i;have g:0<(gB L 0).q:=by rw[←xK (by omega:0<L.j)];exact j _ (zr _)
 go_enter func152,ntmps152;go_wp2_with (first|(refine jE _ w rfl (.tmp 26) 30 9 (Z (.const (ι 1))) Y rfl underlying30 z D TW _ (x::L) rfl k 1 (L.j+1) (zg rfl) (zh ⟨rfl,rfl⟩) η ζ L.j η ?_;intro C l f;simp only[mP,fA,ve] at f;obtain⟨b,o,rfl,q,a⟩:=f.E η;have d:=a 0 η;rw[xK η] at d;rw[vB] at d;have r:=U2 a;clear a)|(go_at_call 184;refine(gT _ _ g).y ?_;rintro e n ⟨rfl,rfl⟩))
 exact zP (v:=.tuple #[.agg #[.i true,.string g_,ν],.i false]) (by simp[results,results152,go_sem];try rfl) rfl ⟨γ,_,_,_,_,_,rfl⟩
def Lv(w:U)(v:O)(x:Λ)(L:List Λ)(k:SV w v (x::L))(j:∀y∈L,0<y.q)(H:(x.v == [33])=true)(B:L.j<=500)(C:¬L.j=0)(hs:xg (UC (gB L 0) 0)=true)(z:L.j=1):
  c_ e_ 152 #[v,.i false] w λe n=>jV (Z ⟨true,gB L 0,[]⟩) w e n:=by
 obtain⟨A,E,m,s,t⟩:=info_parts Uw;obtain⟨u,p,rfl⟩:=k.qm;obtain⟨F,G,rfl,h,c⟩:=k.E ζ;have i:=c 0 ζ;rw[vB,dB] at i;have g:0<(gB L 0).q:=by rw[←xK (by omega:0<L.j)];exact j _ (zr _)
 go_enter func152,ntmps152;go_wp2_with (first|(refine jE _ w rfl (.tmp 26) 30 9 (Z (.const (ι 1))) Y rfl underlying30 A E TW _ (x::L) rfl k 1 (L.j+1) (zg rfl) (zh ⟨rfl,rfl⟩) η ζ L.j η ?_;intro D l f;simp only[mP,fA,ve] at f;obtain⟨b,o,rfl,q,a⟩:=f.E η;have d:=a 0 η;rw[xK η] at d;rw[vB] at d;have r:=U2 a;clear a)|(go_at_call 184;refine(gT _ _ g).y ?_;rintro e n ⟨rfl,rfl⟩))
 exact zP (v:=.tuple #[.agg #[.i true,.string (gB L 0),ν],.i true]) (by simp[results,results152,go_sem]) rfl ⟨γ,_,rfl,U7.nil _⟩
def NN(w:U)(v:O)(x:Λ)(L:List Λ)(k:SV w v (x::L))(j:∀y∈L,0<y.q)(I:(x.v == [33])=true)(C:L.j<=500)(D:¬L.j=0)(hs:xg (UC (gB L 0) 0)=true)(A:¬L.j=1)(z:L.j<4):
  c_ e_ 152 #[v,.i false] w λe n=>jV Y w e n:=by
 obtain⟨B,F,m,s,t⟩:=info_parts Uw;obtain⟨u,p,rfl⟩:=k.qm;obtain⟨G,H,rfl,h,c⟩:=k.E ζ;have i:=c 0 ζ;rw[vB,dB] at i;have g:0<(gB L 0).q:=by rw[←xK (by omega:0<L.j)];exact j _ (zr _)
 go_enter func152,ntmps152;go_wp2_with (first|(refine jE _ w rfl (.tmp 26) 30 9 (Z (.const (ι 1))) Y rfl underlying30 B F TW _ (x::L) rfl k 1 (L.j+1) (zg rfl) (zh ⟨rfl,rfl⟩) η ζ L.j η ?_;intro E l f;simp only[mP,fA,ve] at f;obtain⟨b,o,rfl,q,a⟩:=f.E η;have d:=a 0 η;rw[xK η] at d;rw[vB] at d;have r:=U2 a;clear a)|(go_at_call 184;refine(gT _ _ g).y ?_;rintro e n ⟨rfl,rfl⟩))
 exact zP (v:=.tuple #[.agg #[.i true,.string (gB L 0),ν],.i false]) (by simp[results,results152,go_sem];try rfl) rfl ⟨γ,_,_,_,_,_,rfl⟩
def RJ(w:U)(v:O)(x:Λ)(L:List Λ)(k:SV w v (x::L))(j:∀y∈L,0<y.q)(J:(x.v == [33])=true)(C:L.j<=500)(E:¬L.j=0)(hs:xg (UC (gB L 0) 0)=true)(A:¬L.j=1)(z:¬L.j<4)(D:L.j%2=1):
  c_ e_ 152 #[v,.i false] w λe n=>jV Y w e n:=by
 obtain⟨B,G,m,s,t⟩:=info_parts Uw;obtain⟨u,p,rfl⟩:=k.qm;obtain⟨H,I,rfl,h,c⟩:=k.E ζ;have i:=c 0 ζ;rw[vB,dB] at i;have g:0<(gB L 0).q:=by rw[←xK (by omega:0<L.j)];exact j _ (zr _)
 go_enter func152,ntmps152;go_wp2_with (first|(refine jE _ w rfl (.tmp 26) 30 9 (Z (.const (ι 1))) Y rfl underlying30 B G TW _ (x::L) rfl k 1 (L.j+1) (zg rfl) (zh ⟨rfl,rfl⟩) η ζ L.j η ?_;intro F l f;simp only[mP,fA,ve] at f;obtain⟨b,o,rfl,q,a⟩:=f.E η;have d:=a 0 η;rw[xK η] at d;rw[vB] at d;have r:=U2 a;clear a)|(go_at_call 184;refine(gT _ _ g).y ?_;rintro e n ⟨rfl,rfl⟩))
 exact zP (v:=.tuple #[.agg #[.i true,.string (gB L 0),ν],.i false]) (by simp[results,results152,go_sem];try rfl) rfl ⟨γ,_,_,_,_,_,rfl⟩
def Rh(w:U)(v:O)(x:Λ)(L:List Λ)(l:SV w v (x::L))(k:∀y∈L,0<y.q)(M:(x.v == [33])=true)(E:L.j<=500)(G:¬L.j=0)(hs:xg (UC (gB L 0) 0)=true)(C:¬L.j=1)(B:¬L.j<4)(F:¬L.j%2=1)(t:((gB L 1).v == [40])=false):
  c_ e_ 152 #[v,.i false] w λe p=>jV Y w e p:=by
 obtain⟨D,I,n,u,z⟩:=info_parts Uw;obtain⟨A,q,rfl⟩:=l.qm;obtain⟨J,K,rfl,i,c⟩:=l.E ζ;have j:=c 0 ζ;rw[vB,dB] at j;have g:0<(gB L 0).q:=by rw[←xK (by omega:0<L.j)];exact k _ (zr _)
 go_enter func152,ntmps152;go_wp2_with (first|(refine jE _ w rfl (.tmp 26) 30 9 (Z (.const (ι 1))) Y rfl underlying30 D I TW _ (x::L) rfl l 1 (L.j+1) (zg rfl) (zh ⟨rfl,rfl⟩) η ζ L.j η ?_;intro H m f;simp only[mP,fA,ve] at f;obtain⟨b,o,rfl,r,a⟩:=f.E η;have d:=a 0 η;have h:=a 1 η;rw[xK η] at d h;rw[vB] at d;have s:=U2 a;clear a)|(go_at_call 184;refine(gT _ _ g).y ?_;rintro e p ⟨rfl,rfl⟩))
 exact zP (v:=.tuple #[.agg #[.i true,.string (gB L 0),ν],.i false]) (by simp[results,results152,go_sem];try rfl) rfl ⟨γ,_,_,_,_,_,rfl⟩
def S3(w:U)(v:O)(x:Λ)(L:List Λ)(m:SV w v (x::L))(l:∀y∈L,0<y.q)(P:(x.v == [33])=true)(G:L.j<=500)(I:¬L.j=0)(hs:xg (UC (gB L 0) 0)=true)(D:¬L.j=1)(C:¬L.j<4)(H:¬L.j%2=1)(u:((gB L 1).v == [40])=true)(F:((gB L (L.j-1)).v == [41])=false):
  c_ e_ 152 #[v,.i false] w λe q=>jV Y w e q:=by
 obtain⟨E,K,p,z,A⟩:=info_parts Uw;obtain⟨B,r,rfl⟩:=m.qm;obtain⟨M,N,rfl,j,c⟩:=m.E ζ;have k:=c 0 ζ;rw[vB,dB] at k;have g:0<(gB L 0).q:=by rw[←xK (by omega:0<L.j)];exact l _ (zr _)
 go_enter func152,ntmps152;go_wp2_with (first|(refine jE _ w rfl (.tmp 26) 30 9 (Z (.const (ι 1))) Y rfl underlying30 E K TW _ (x::L) rfl m 1 (L.j+1) (zg rfl) (zh ⟨rfl,rfl⟩) η ζ L.j η ?_;intro J n f;simp only[mP,fA,ve] at f;obtain⟨b,o,rfl,s,a⟩:=f.E η;have d:=a 0 η;have h:=a 1 η;have i:=a (L.j-1) η;rw[xK η] at d h i;rw[vB] at d;have t:=U2 a;clear a)|(go_at_call 184;refine(gT _ _ g).y ?_;rintro e q ⟨rfl,rfl⟩))
 exact zP (v:=.tuple #[.agg #[.i true,.string (gB L 0),ν],.i false]) (by simp[results,results152,go_sem];try rfl) rfl ⟨γ,_,_,_,_,_,rfl⟩
end Go.Proofs.YteampbddflhngaaGreat
