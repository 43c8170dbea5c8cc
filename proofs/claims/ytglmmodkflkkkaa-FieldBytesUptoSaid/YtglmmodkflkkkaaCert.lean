/- The two moduli of the curve P-256 are prime. No condition. -/
import Derived.Test.YtglmmodkflkkkaaPri
set_option linter.unusedVariables false
namespace Go.Proofs.Ytglmmodkflkkkaa.Primes
theorem p197 : Prm 197 := prime_by_trial 15 (by decide +kernel) (by decide +kernel) (by decide +kernel)
theorem p3023 : Prm 3023 := prime_by_trial 55 (by decide +kernel) (by decide +kernel) (by decide +kernel)
theorem p3677 : Prm 3677 := prime_by_trial 61 (by decide +kernel) (by decide +kernel) (by decide +kernel)
theorem p78283 : Prm 78283 := prime_by_trial 280 (by decide +kernel) (by decide +kernel) (by decide +kernel)
theorem p704251 : Prm 704251 := prime_by_trial 840 (by decide +kernel) (by decide +kernel) (by decide +kernel)
theorem p3969899 : Prm 3969899 := prime_by_trial 1993 (by decide +kernel) (by decide +kernel) (by decide +kernel)
theorem p191039911 : Prm 191039911 := prime_by_trial 13822 (by decide +kernel) (by decide +kernel) (by decide +kernel)
theorem p66417393611 : Prm 66417393611 := pock2 3677 2 197 2 p3677 p197 (by decide +kernel) (by decide +kernel) (by decide +kernel) (by decide +kernel) (by decide +kernel) (by decide +kernel) (by decide +kernel) (by decide +kernel) (by decide +kernel) (by decide +kernel)
theorem p1002328039319 : Prm 1002328039319 := pock1 3969899 2 p3969899 (by decide +kernel) (by decide +kernel) (by decide +kernel) (by decide +kernel) (by decide +kernel) (by decide +kernel)
theorem p11290956913871 : Prm 11290956913871 := pock1 66417393611 2 p66417393611 (by decide +kernel) (by decide +kernel) (by decide +kernel) (by decide +kernel) (by decide +kernel) (by decide +kernel)
theorem p46076956964474543 : Prm 46076956964474543 := pock2 704251 2 78283 2 p704251 p78283 (by decide +kernel) (by decide +kernel) (by decide +kernel) (by decide +kernel) (by decide +kernel) (by decide +kernel) (by decide +kernel) (by decide +kernel) (by decide +kernel) (by decide +kernel)
theorem p208150935158385979 : Prm 208150935158385979 := pock2 191039911 2 3023 2 p191039911 p3023 (by decide +kernel) (by decide +kernel) (by decide +kernel) (by decide +kernel) (by decide +kernel) (by decide +kernel) (by decide +kernel) (by decide +kernel) (by decide +kernel) (by decide +kernel)
theorem p2624747550333869278416773953 : Prm 2624747550333869278416773953 := pock1 208150935158385979 2 p208150935158385979 (by decide +kernel) (by decide +kernel) (by decide +kernel) (by decide +kernel) (by decide +kernel) (by decide +kernel)
theorem p774023187263532362759620327192479577272145303 : Prm 774023187263532362759620327192479577272145303 := pock2 46076956964474543 2 11290956913871 2 p46076956964474543 p11290956913871 (by decide +kernel) (by decide +kernel) (by decide +kernel) (by decide +kernel) (by decide +kernel) (by decide +kernel) (by decide +kernel) (by decide +kernel) (by decide +kernel) (by decide +kernel)
theorem p835945042244614951780389953367877943453916927241 : Prm 835945042244614951780389953367877943453916927241 := pock1 774023187263532362759620327192479577272145303 2 p774023187263532362759620327192479577272145303 (by decide +kernel) (by decide +kernel) (by decide +kernel) (by decide +kernel) (by decide +kernel) (by decide +kernel)
theorem N256 : Prm 115792089210356248762697446949407573529996955224135760342422259061068512044369 := pock2 2624747550333869278416773953 2 1002328039319 2 p2624747550333869278416773953 p1002328039319 (by decide +kernel) (by decide +kernel) (by decide +kernel) (by decide +kernel) (by decide +kernel) (by decide +kernel) (by decide +kernel) (by decide +kernel) (by decide +kernel) (by decide +kernel)
theorem P256 : Prm 115792089210356248762697446949407573530086143415290314195533631308867097853951 := pock1 835945042244614951780389953367877943453916927241 2 p835945042244614951780389953367877943453916927241 (by decide +kernel) (by decide +kernel) (by decide +kernel) (by decide +kernel) (by decide +kernel) (by decide +kernel)
end Go.Proofs.Ytglmmodkflkkkaa.Primes
