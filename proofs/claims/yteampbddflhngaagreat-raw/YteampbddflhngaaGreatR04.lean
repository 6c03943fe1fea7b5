import Derived.Test.YteampbddflhngaaGreatR01
namespace Go.Proofs.YteampbddflhngaaGreat
open List renaming length→List.j
open _root_.Array renaming size→Array.q
open _root_.ByteArray renaming size→ByteArray.q
open Go.Calls renaming mono→Go.Calls.y
open Go.Value renaming bool→Go.Value.i,cells→Go.Value.E
open Go.TypeDesc renaming bool→Go.TypeDesc.i
open Go.Obj renaming cells→Go.Obj.E
open Option renaming none→Y
open Go renaming World→U,Value→O
set_option linter.all false
set_option maxRecDepth 100000
set_option maxHeartbeats 2000000
open Go.Proofs.Tryz Go.RowKit
def Sl(w:U)(v:O)(L:κ)(b:Bool)(c:SV w v L)(f:∀y∈L,0<y.q)(j:L.j<=500)(i:TW L b=false)(h:L.j=0):
  Calls prog 152 #[v,.i b] w λe g=>jW Y w e g:=by
 have a:=nO i;obtain⟨k,d,rfl⟩:=c.qy;rcases a with a|⟨a,_⟩|⟨⟨a,_⟩,rfl⟩
 .go_enter func152,ntmps152;go_wp2;exact zP (v:=.tuple #[.agg #[.i false,.string ByteArray.empty,ν],.i false]) (by simp[results,results152,go_sem];try rfl) rfl ⟨γ,_,_,_,_,_,rfl⟩
 omega;omega
def Q3(w:U)(v:O)(L:κ)(c:Bool)(d:SV w v L)(i:∀y∈L,0<y.q)(n:L.j<=500)(q:TW L c=false)(m:¬L.j=0)(hs:xi (Tt (gB L 0) 0)=false):
  Calls prog 152 #[v,.i c] w λe k=>jW Y w e k:=by
 have a:=nO q;obtain⟨p,j,rfl⟩:=d.qy;have h:0<(gB L 0).q:=by rw[←xJ (by omega:0<L.j)];exact i _ (zq _)
 obtain⟨b,o,rfl,l,g⟩:=d.E η;have f:=g 0 η;rw[xJ η] at f;rw[vu] at f;rcases a with a|⟨_,a⟩|⟨⟨_,a⟩,rfl⟩;omega
 all_goals
  go_enter func152,ntmps152;go_wp2_with (go_at_call 184;refine(gu _ _ h).y ?_;rintro e k ⟨rfl,rfl⟩)
  exact zP (v:=.tuple #[.agg #[.i false,.string ByteArray.empty,ν],.i false]) (by simp[results,results152,go_sem];try rfl) rfl ⟨γ,_,_,_,_,_,rfl⟩
def KE(w:U)(v:O)(L:κ)(c:Bool)(d:SV w v L)(i:∀y∈L,0<y.q)(q:L.j<=500)(p:TW L c=false)(m:¬L.j=0)(hs:xi (Tt (gB L 0) 0)=true)(n:L.j=1):
  Calls prog 152 #[v,.i c] w λe k=>jW (some ⟨false,gB L 0,[]⟩) w e k:=by
 have a:=nO p;obtain⟨r,j,rfl⟩:=d.qy;have h:0<(gB L 0).q:=by rw[←xJ (by omega:0<L.j)];exact i _ (zq _)
 obtain⟨b,o,rfl,l,g⟩:=d.E η;have f:=g 0 η;rw[xJ η] at f;rw[vu] at f;rcases a with a|⟨_,a⟩|⟨⟨_,a⟩,rfl⟩;omega
 all_goals
  go_enter func152,ntmps152;go_wp2_with (go_at_call 184;refine(gu _ _ h).y ?_;rintro e k ⟨rfl,rfl⟩)
  exact zP (v:=.tuple #[.agg #[.i false,.string (gB L 0),ν],.i true]) (by simp[results,results152,go_sem]) rfl ⟨γ,_,rfl,To.nil _⟩
def MM(w:U)(v:O)(L:κ)(c:Bool)(d:SV w v L)(i:∀y∈L,0<y.q)(r:L.j<=500)(q:TW L c=false)(n:¬L.j=0)(hs:xi (Tt (gB L 0) 0)=true)(p:¬L.j=1)(m:L.j<4):
  Calls prog 152 #[v,.i c] w λe k=>jW Y w e k:=by
 have a:=nO q;obtain⟨s,j,rfl⟩:=d.qy;have h:0<(gB L 0).q:=by rw[←xJ (by omega:0<L.j)];exact i _ (zq _)
 obtain⟨b,o,rfl,l,g⟩:=d.E η;have f:=g 0 η;rw[xJ η] at f;rw[vu] at f;rcases a with a|⟨_,a⟩|⟨⟨_,a⟩,rfl⟩;omega
 all_goals
  go_enter func152,ntmps152;go_wp2_with (go_at_call 184;refine(gu _ _ h).y ?_;rintro e k ⟨rfl,rfl⟩)
  exact zP (v:=.tuple #[.agg #[.i false,.string (gB L 0),ν],.i false]) (by simp[results,results152,go_sem];try rfl) rfl ⟨γ,_,_,_,_,_,rfl⟩
def Q1(w:U)(v:O)(L:κ)(c:Bool)(d:SV w v L)(i:∀y∈L,0<y.q)(s:L.j<=500)(r:TW L c=false)(n:¬L.j=0)(hs:xi (Tt (gB L 0) 0)=true)(p:¬L.j=1)(m:¬L.j<4)(q:L.j%2=1):
  Calls prog 152 #[v,.i c] w λe k=>jW Y w e k:=by
 have a:=nO r;obtain⟨t,j,rfl⟩:=d.qy;have h:0<(gB L 0).q:=by rw[←xJ (by omega:0<L.j)];exact i _ (zq _)
 obtain⟨b,o,rfl,l,g⟩:=d.E η;have f:=g 0 η;rw[xJ η] at f;rw[vu] at f;rcases a with a|⟨_,a⟩|⟨⟨_,a⟩,rfl⟩;omega
 all_goals
  go_enter func152,ntmps152;go_wp2_with (go_at_call 184;refine(gu _ _ h).y ?_;rintro e k ⟨rfl,rfl⟩)
  exact zP (v:=.tuple #[.agg #[.i false,.string (gB L 0),ν],.i false]) (by simp[results,results152,go_sem];try rfl) rfl ⟨γ,_,_,_,_,_,rfl⟩
def Jm(w:U)(v:O)(L:κ)(c:Bool)(f:SV w v L)(j:∀y∈L,0<y.q)(u:L.j<=500)(q:TW L c=false)(r:¬L.j=0)(hs:xi (Tt (gB L 0) 0)=true)(s:¬L.j=1)(p:¬L.j<4)(t:¬L.j%2=1)(x:((gB L 1).toList == [40])=false):
  Calls prog 152 #[v,.i c] w λe l=>jW Y w e l:=by
 have a:=nO q;obtain⟨n,k,rfl⟩:=f.qy;have h:0<(gB L 0).q:=by rw[←xJ (by omega:0<L.j)];exact j _ (zq _)
 obtain⟨b,o,rfl,m,d⟩:=f.E η;have g:=d 0 η;have i:=d 1 η;rw[xJ η] at g i;rw[vu] at g;rcases a with a|⟨_,a⟩|⟨⟨_,a⟩,rfl⟩;omega
 all_goals
  go_enter func152,ntmps152;go_wp2_with (go_at_call 184;refine(gu _ _ h).y ?_;rintro e l ⟨rfl,rfl⟩)
  exact zP (v:=.tuple #[.agg #[.i false,.string (gB L 0),ν],.i false]) (by simp[results,results152,go_sem];try rfl) rfl ⟨γ,_,_,_,_,_,rfl⟩
def Nt(w:U)(v:O)(L:κ)(c:Bool)(f:SV w v L)(j:∀y∈L,0<y.q)(z:L.j<=500)(s:TW L c=false)(t:¬L.j=0)(hs:xi (Tt (gB L 0) 0)=true)(u:¬L.j=1)(q:¬L.j<4)(x:¬L.j%2=1)(A:((gB L 1).toList == [40])=true)(r:((gB L (L.j-1)).toList == [41])=false):
  Calls prog 152 #[v,.i c] w λe m=>jW Y w e m:=by
 have a:=nO s;obtain⟨p,l,rfl⟩:=f.qy;have h:0<(gB L 0).q:=by rw[←xJ (by omega:0<L.j)];exact j _ (zq _)
 obtain⟨b,o,rfl,n,d⟩:=f.E η;have g:=d 0 η;have i:=d 1 η;have k:=d (L.j-1) η;rw[xJ η] at g i k;rw[vu] at g;rcases a with a|⟨_,a⟩|⟨⟨_,a⟩,rfl⟩;omega
 all_goals
  go_enter func152,ntmps152;go_wp2_with (go_at_call 184;refine(gu _ _ h).y ?_;rintro e m ⟨rfl,rfl⟩)
  exact zP (v:=.tuple #[.agg #[.i false,.string (gB L 0),ν],.i false]) (by simp[results,results152,go_sem];try rfl) rfl ⟨γ,_,_,_,_,_,rfl⟩
end Go.Proofs.YteampbddflhngaaGreat
