/- The builder's contract lies in this seat's shelf. -/
import Derived.Test.YtnbpcaoblpidjabDoorShelf
